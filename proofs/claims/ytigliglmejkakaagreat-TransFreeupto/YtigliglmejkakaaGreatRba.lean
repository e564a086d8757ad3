/- Str of alive's structure; alive. A list of constructors that came in. Structures in memory. What a label's maker answers; the gatherer with any fields. -/
import Derived.Test.YtigliglmejkakaaGreatRaz
import Derived.Test.YtigliglmejkakaaGreatRaw
import Derived.Test.YtigliglmejkakaaGreatRae
namespace Go.Proofs.YtigliglmejkakaaGreat
open Go.RowKit Go.Shelf Go.Sort
set_option linter.unusedVariables false
set_option linter.unusedSimpArgs false

theorem ctl_cells {w : World} {r : Nat} (hl : CtL w Any 2 (.slice (some ⟨r, 0, none⟩) 2 2) listC) : ∃ a0 p0 a1 p1, w.cell? ⟨r, 0, none⟩ = some (.string (ByteArray.mk #[78, 105, 108])) ∧ w.cell? ⟨r, 1, none⟩ = some (.slice a0 0 p0) ∧ w.cell? ⟨r, 2, none⟩ = some (.string (ByteArray.mk #[67, 111, 110, 115])) ∧ w.cell? ⟨r, 3, none⟩ = some (.slice a1 1 p1) := by
  rcases hl with ⟨b, o, cp, hv, -, -, -, h5⟩ | ⟨h, -⟩
  · injection hv with e1 e2 e3
    injection e1 with e1
    injection e1 with e1 e4
    subst e1
    subst e4
    obtain ⟨vs, g1, g2⟩ := h5 0 _ rfl
    obtain ⟨ga, gc, rfl, -⟩ := g2.form
    obtain ⟨us, k1, k2⟩ := h5 1 _ rfl
    obtain ⟨ha, hc, rfl, -⟩ := k2.form
    exact ⟨ga, gc, ha, hc, by simpa using g1 0 _ rfl, by simpa using g1 1 _ rfl, by simpa using k1 0 _ rfl, by simpa using k1 1 _ rfl⟩
  · cases h

set_option maxHeartbeats 1000000 in
set_option maxRecDepth 100000 in
theorem str14 (w : World) (tb r : Nat) (hm : Arr w tb 67 [.string (ByteArray.mk #[116]), .int .i64 6, .int .i64 5, .slice none 0 0, .slice (some ⟨r, 0, none⟩) 2 2]) (hl : CtL w Any 2 (.slice (some ⟨r, 0, none⟩) 2 2) listC) :
    Calls Tryz.prog 18 #[.agg #[.slice (some ⟨tb, 0, none⟩) 1 1, .slice none 0 0, .slice none 0 0, .slice none 0 0, .slice none 0 0]] w fun e w' => (∃ lb kb, e = .returned (.tuple #[.agg #[.int .i64 7, .int .i64 0, .slice (some ⟨lb, 0, none⟩) 3 3, .slice (some ⟨kb, 0, none⟩) 3 3], .int .i64 0]) ∧ w'.cell? ⟨lb, 0, none⟩ = some (.string ⟨bC.toArray⟩) ∧ w'.cell? ⟨lb, 2, none⟩ = some (.string ⟨bO.toArray⟩) ∧ lb < w'.heap.size) ∧ Below w.heap.size w w' := by
  have HB2 : Hid (Below w.heap.size w ((w.alloc (.cells #[.slice (some ⟨tb, 0, none⟩) 1 1, .slice none 0 0, .slice none 0 0, .slice none 0 0, .slice none 0 0] 49)).alloc (.cells #[.int .i64 0, .int .i64 0, .slice none 0 0, .slice none 0 0] 28))) := bl_alloc (bl_alloc (Below.refl _ _) _) _
  have X2 : Hid (Arr ((w.alloc (.cells #[.slice (some ⟨tb, 0, none⟩) 1 1, .slice none 0 0, .slice none 0 0, .slice none 0 0, .slice none 0 0] 49)).alloc (.cells #[.int .i64 0, .int .i64 0, .slice none 0 0, .slice none 0 0] 28)) w.heap.size 49 [.slice (some ⟨tb, 0, none⟩) 1 1, .slice none 0 0, .slice none 0 0, .slice none 0 0, .slice none 0 0]) := Arr.stays ⟨heap_alloc_at _ _⟩ (bl_alloc (Below.refl _ _) _)
  have Y2 : Hid (Arr ((w.alloc (.cells #[.slice (some ⟨tb, 0, none⟩) 1 1, .slice none 0 0, .slice none 0 0, .slice none 0 0, .slice none 0 0] 49)).alloc (.cells #[.int .i64 0, .int .i64 0, .slice none 0 0, .slice none 0 0] 28)) (w.heap.size + 1) 28 [.int .i64 0, .int .i64 0, .slice none 0 0, .slice none 0 0]) := ⟨by have := heap_alloc_at (w.alloc (.cells #[.slice (some ⟨tb, 0, none⟩) 1 1, .slice none 0 0, .slice none 0 0, .slice none 0 0, .slice none 0 0] 49)) (.cells #[.int .i64 0, .int .i64 0, .slice none 0 0, .slice none 0 0] 28); rw [size_alloc] at this; exact this⟩
  obtain ⟨a0, p0, a1, p1, c0, c1, c2, c3⟩ := ctl_cells (hl.below HB2.out)
  have HQ := hid (record14 ((w.alloc (.cells #[.slice (some ⟨tb, 0, none⟩) 1 1, .slice none 0 0, .slice none 0 0, .slice none 0 0, .slice none 0 0] 49)).alloc (.cells #[.int .i64 0, .int .i64 0, .slice none 0 0, .slice none 0 0] 28)) w.heap.size tb r ⟨a0, p0, a1, p1, X2.out, hm.stays HB2.out, c0, c1, c2, c3⟩ (hl.below HB2.out))
  have HSS : Hid (∀ (W : World) i u, Below w.heap.size w W → Below w.heap.size w (W.setCell ⟨w.heap.size + 1, i, none⟩ u)) := fun W i u h => bl_set _ _ h (by show _ ≤ w.heap.size + 1; omega)
  clear hm hl c0 c1 c2 c3
  go_enter Tryz.func18, Tryz.ntmps18
  go_wp2_with (go_at_call 43; refine HQ.out.mono ?_; rintro e w3 ⟨⟨lb, kb, rfl, q0, q2, hlb⟩, b3⟩; have HB3 := hid (bl_tr HB2.out b3); have r3 := (Y2.out.stays b3).cell; have s3 := (Y2.out.stays b3).frozen; have HQ0 := hid q0; have HQ2 := hid q2; have HLB := hid hlb; clear b3 q0 q2 hlb)
  refine bodyPost_ret (v := .tuple #[.agg #[.int .i64 7, .int .i64 0, .slice (some ⟨lb, 0, none⟩) 3 3, .slice (some ⟨kb, 0, none⟩) 3 3], .int .i64 0]) (by rw [results_cell2t (fn := Tryz.f18) (p := 2) (a := 3) (ty := 28) (by kernel_rfl)]; simp [go_sem, r3, s3]) rfl ?_
  by_cases hne : lb = w.heap.size + 1
  · exfalso
    subst hne
    have := r3 0
    rw [HQ0.out] at this
    cases this
  have hsz : ∀ (W : World) q u, (W.setCell ⟨w.heap.size + 1, q, none⟩ u).heap.size = W.heap.size := fun W q u => by simp [World.setCell]
  have hce : ∀ (W : World) q u o v, W.cell? ⟨lb, o, none⟩ = some v → (W.setCell ⟨w.heap.size + 1, q, none⟩ u).cell? ⟨lb, o, none⟩ = some v := fun W q u o v h => (World.cell?_of_block (w := W) (Below.heap_setCell _ _ _ _ hne)).trans h
  exact ⟨⟨lb, kb, rfl, hce _ _ _ _ _ (hce _ _ _ _ _ (hce _ _ _ _ _ (hce _ _ _ _ _ HQ0.out))), hce _ _ _ _ _ (hce _ _ _ _ _ (hce _ _ _ _ _ (hce _ _ _ _ _ HQ2.out))), by rw [hsz, hsz, hsz, hsz]; exact HLB.out⟩, HSS.out _ _ _ (HSS.out _ _ _ (HSS.out _ _ _ (HSS.out _ _ _ HB3.out)))⟩

theorem okRep5 : okRep 5 listC = true := by decide
theorem bad7 : Tp.okT (.mk 7 0 []) = false := by decide

set_option maxHeartbeats 4000000 in
set_option maxRecDepth 100000 in
theorem alive14 (w : World) : Calls Tryz.prog 7 #[] w fun e w' => e = .returned (.bool true) ∧ Below w.heap.size w w' := by
  have hR : Hid (∀ (wz : World) (r : Nat), CtL wz Any 2 (.slice (some ⟨r, 0, none⟩) 2 2) listC → Calls Tryz.prog 23 #[.int .i64 5, .slice (some ⟨r, 0, none⟩) 2 2] wz fun e w' => (∃ a' c' kb ko c N, e = .returned (.tuple #[.agg #[.int .i64 9, .int .i64 5, .slice a' 0 c', .slice (some ⟨kb, ko, none⟩) 1 c], .int .i64 0]) ∧ (∃ x y z d, w'.cell? ⟨kb, ko, none⟩ = some x ∧ w'.cell? ⟨kb, ko + 1, none⟩ = some y ∧ w'.cell? ⟨kb, ko + 2, none⟩ = some z ∧ w'.cell? ⟨kb, ko + 3, none⟩ = some (.slice N 2 d)) ∧ kb < w'.heap.size) ∧ Below wz.heap.size wz w') := by
    intro wz r h
    refine (Rep_any wz 2 5 _ listC h (by decide) (by decide)).mono ?_
    rintro e w' ⟨h1, h2⟩
    rw [okRep5] at h1
    obtain ⟨a', c', a, c, N, g, hT⟩ := h1.yes
    refine ⟨?_, h2⟩
    cases N with
    | zero => exact hT.elim
    | succ N =>
      obtain ⟨u, v, hv, -, -, -, hL⟩ := hT.open_
      have hv2 : v = .slice a 1 c := by
        simp only [List.cons.injEq, and_true, true_and] at hv
        exact hv.2.symm
      subst hv2
      obtain ⟨b, o, rfl, hP⟩ := hL.elem (i := 0) (x := sumT listC) rfl
      obtain ⟨N, rfl⟩ := hP.pos
      obtain ⟨x', y', z, d, k0, k1, k2, k3⟩ := hP.cells
      simp only [Nat.zero_mul, Nat.add_zero] at k0 k1 k2 k3
      exact ⟨a', c', b, o, c, z, g, ⟨_, _, _, d, k0, k1, k2, k3.1⟩, World.block_lt_of_cell? _ _ k0⟩
  have hTy : Hid (∀ wz, Calls Tryz.prog 6 #[.agg #[.int .i64 7, .int .i64 0, .slice none 0 0]] wz fun e w' => e = .returned (.tuple #[.agg #[.int .i64 0, .int .i64 0, .slice none 0 0, .slice none 0 0], .int .i64 1]) ∧ Below wz.heap.size wz w') := fun wz => (TType_any wz 1 _ (.mk 7 0 []) (tat0 7 0 ⟨by omega, by omega⟩ ⟨by omega, by omega⟩) (by decide)).mono fun e w' ⟨h1, h2⟩ => ⟨by rw [bad7] at h1; exact (h1.resolve_left (fun h => by cases h.1)).2, h2⟩
  have mk1 : Hid True := trivial
  go_enter Tryz.func7, Tryz.ntmps7
  go_wp2_with (first | (go_at_call 24; have := mk1; refine (list14 _).mono ?_; rintro e w1 ⟨r1, rfl, hl1, b1⟩; have HL1 := hid hl1; have HB1 := hid b1; clear hl1 b1 mk1) | (go_at_call 23; refine (hR.out _ r1 HL1.out).mono ?_; rintro e w2 ⟨⟨a2', c2', kb2, ko2, c2, z2, rfl, hc2, hk2⟩, b2⟩; have HC2 := hid hc2; have HK2 := hid hk2; have HB2 := hid (bl_alloc (bl_tr HB1.out b2) (.cells #[.int .i64 9, .int .i64 5, .slice a2' 0 c2', .slice (some ⟨kb2, ko2, none⟩) 1 c2] 28)); have A2 : Hid (Arr (w2.alloc (.cells #[.int .i64 9, .int .i64 5, .slice a2' 0 c2', .slice (some ⟨kb2, ko2, none⟩) 1 c2] 28)) w2.heap.size 28 [.int .i64 9, .int .i64 5, .slice a2' 0 c2', .slice (some ⟨kb2, ko2, none⟩) 1 c2]) := ⟨heap_alloc_at _ _⟩; clear hc2 hk2 b2) | (go_at_call 25; refine (stamp14 _ 5).mono ?_; rintro e w3 ⟨rfl, b3⟩; have HB3 := hid (bl_tr HB2.out b3); have HE3 := hid (bl_tr (bl_alloc (Below.refl w2.heap.size w2) (.cells #[.int .i64 9, .int .i64 5, .slice a2' 0 c2', .slice (some ⟨kb2, ko2, none⟩) 1 c2] 28)) b3); have A3 := hid (A2.out.stays b3); clear b3) | (go_at_call 24; refine (list14 _).mono ?_; rintro e w4 ⟨r3, rfl, hl4, b4⟩; have hb4 := bl_alloc b4 (.cells #[.string (ByteArray.mk #[116]), .int .i64 6, .int .i64 5, .slice none 0 0, .slice (some ⟨r3, 0, none⟩) 2 2] 67); have HL4 := hid (hl4.below (bl_alloc (Below.refl _ _) (.cells #[.string (ByteArray.mk #[116]), .int .i64 6, .int .i64 5, .slice none 0 0, .slice (some ⟨r3, 0, none⟩) 2 2] 67))); have M4 : Hid (Arr (w4.alloc (.cells #[.string (ByteArray.mk #[116]), .int .i64 6, .int .i64 5, .slice none 0 0, .slice (some ⟨r3, 0, none⟩) 2 2] 67)) w4.heap.size 67 [.string (ByteArray.mk #[116]), .int .i64 6, .int .i64 5, .slice none 0 0, .slice (some ⟨r3, 0, none⟩) 2 2]) := ⟨heap_alloc_at _ _⟩; have HB4 := hid (bl_tr HB3.out hb4); have HE4 := hid (bl_tr HE3.out hb4); have A4 := hid (A3.out.stays hb4); clear hl4 b4 hb4) | (go_at_call 18; refine (str14 _ w4.heap.size r3 M4.out HL4.out).mono ?_; rintro e w5 ⟨⟨lb, kb, rfl, q0, q2, hlb⟩, b5⟩; have hb5 := bl_alloc b5 (.cells #[.int .i64 7, .int .i64 0, .slice (some ⟨lb, 0, none⟩) 3 3, .slice (some ⟨kb, 0, none⟩) 3 3] 28); have HB5 := hid (bl_tr HB4.out hb5); have HE5 := hid (bl_tr HE4.out hb5); have A5 := hid (A4.out.stays hb5); have S5 : Hid (Arr (w5.alloc (.cells #[.int .i64 7, .int .i64 0, .slice (some ⟨lb, 0, none⟩) 3 3, .slice (some ⟨kb, 0, none⟩) 3 3] 28)) w5.heap.size 28 [.int .i64 7, .int .i64 0, .slice (some ⟨lb, 0, none⟩) 3 3, .slice (some ⟨kb, 0, none⟩) 3 3]) := ⟨heap_alloc_at _ _⟩; have HF5 := hid (bl_alloc (Below.refl w5.heap.size w5) (.cells #[.int .i64 7, .int .i64 0, .slice (some ⟨lb, 0, none⟩) 3 3, .slice (some ⟨kb, 0, none⟩) 3 3] 28)); have HQ0 := hid q0; have HQ2 := hid q2; have HLB := hid hlb; clear b5 hb5 q0 q2 hlb) | (go_at_call 6; refine (hTy.out _).mono ?_; rintro e w6 ⟨rfl, b6⟩; have hb6 := bl_alloc b6 (.cells #[.int .i64 0, .int .i64 0, .slice none 0 0, .slice none 0 0] 28); have HB6 := hid (bl_tr HB5.out hb6); have HE6 := hid (bl_tr HE5.out hb6); have A6 := hid (A5.out.stays hb6); have S6 := hid (S5.out.stays hb6); have HF6 := hid (bl_tr HF5.out hb6); have x1 := A6.out.cell; have x3 := S6.out.cell; obtain ⟨x, y, z, d, k0, k1, k2, k3⟩ := HC2.out; have y3 := (HE6.out.cell (p := ⟨kb2, ko2 + 3, none⟩) HK2.out).trans k3; have y4 := (HF6.out.cell (p := ⟨lb, 0, none⟩) HLB.out).trans HQ0.out; have y5 := (HF6.out.cell (p := ⟨lb, 2, none⟩) HLB.out).trans HQ2.out; clear b6 hb6 k0 k1 k2 k3))
  go_ret
  exact ⟨rfl, HB6.out⟩
end Go.Proofs.YtigliglmejkakaaGreat

namespace Go.Proofs.YtigliglmejkakaaGreat
open Go.ChangeShapes Go.WideShapes Go.ChangeAt Go.RowKit Go.Deep
set_option linter.unusedVariables false
set_option linter.unusedSimpArgs false

theorem cells_ctor : Tryz.prog.cellsOf 125 = 2 := by kernel_rfl
theorem cells_str : Tryz.prog.cellsOf 9 = 1 := by kernel_rfl
theorem cells_ctors : Tryz.prog.cellsOf 63 = 1 := by kernel_rfl
/-- Nodes of a constructor, one for itself. -/
def Ct.wt1 (c : Ct) : Nat := Tp.cntL c.args + 1
def Ct.wt (l : List Ct) : Nat := (l.map Ct.wt1).sum
theorem Ct.wt_cons (c : Ct) (l : List Ct) : Ct.wt (c :: l) = c.wt1 + Ct.wt l := by unfold Ct.wt; rw [List.map_cons, List.sum_cons]
theorem Ct.wt_le : ∀ l : List Ct, Ct.cntL l + l.length = Ct.wt l
  | [] => rfl
  | c :: r => by
    have := Ct.wt_le r
    rw [Ct.wt_cons]
    unfold Ct.cntL Ct.wt1 at *
    simp only [List.map_cons, List.sum_cons, List.length_cons]
    omega
theorem CtL.any {w : World} {K : Nat → Prop} {n : Nat} {v : Value} {l : List Ct} (h : CtL w K n v l) : CtL w Any n v l := by
  rcases h with ⟨b, o, cp, h1, h2, h3, h4, h5⟩ | h
  · exact .inl ⟨b, o, cp, h1, trivial, h3, h4, fun i c hc => by obtain ⟨vs, g1, v, g2, g3⟩ := h5 i c hc; exact ⟨vs, g1, v, g2, g3.any⟩⟩
  · exact .inr h
theorem CtAt.le {w : World} {K : Nat → Prop} {n m : Nat} {vs : List Value} {c : Ct} (h : CtAt w K n vs c) (hm : n ≤ m) : CtAt w K m vs c := by
  obtain ⟨v, h1, h2⟩ := h
  exact ⟨v, h1, h2.le hm⟩
variable {H : Type} {enc : TypeId × Value → H} {W : World}
set_option maxRecDepth 100000 in
theorem open_ctor1 {n : Nat} {cs : List Value} {x : DataW H × List MemPlace} (h : DataW.trod enc Tryz.prog W 0 (fun _ => true) true n 125 cs = some x) : ∃ c : Ct, CtAt W (fun b => b < W.heap.size) n cs c ∧ c.wt1 ≤ Rows.uptoBulk x.1 := by
  obtain ⟨xs, n', rfl, rfl, hl, hlen, hf⟩ := DataW.trod_struct Tryz.underlying125 h
  rw [cells_ctor] at hl
  match cs, hl, xs, hlen with
  | [c0, c1], _, [y0, y1], _ =>
    have h0 := hf 0 _ rfl
    have h1 := hf 1 _ rfl
    replace h0 : DataW.trod enc Tryz.prog W 0 (fun _ => true) true n' 9 [c0] = some y0 := by simpa [cells_str] using h0
    replace h1 : DataW.trod enc Tryz.prog W 0 (fun _ => true) true n' 22 [c1] = some y1 := by simpa [cells_str, cells_tys] using h1
    obtain ⟨s0, e0, rfl, -⟩ := DataW.trod_string Tryz.underlying9 h0
    obtain rfl : c0 = _ := by simpa using e0
    obtain ⟨v1, l1, e1, a1, b1⟩ := open_row (fun m hm => opens_all m) h1
    obtain rfl : c1 = _ := by simpa using e1
    refine ⟨⟨s0, l1⟩, ⟨_, rfl, a1.le (Nat.le_succ _)⟩, ?_⟩
    simp only [Ct.wt1, Rows.uptoBulk, Rows.uptoBulkAll, List.map_cons, List.map_nil]
    omega
set_option maxRecDepth 100000 in
theorem open_crow {fuel : Nat} {cs : List Value} {x : DataW H × List MemPlace} (h : DataW.trod enc Tryz.prog W 0 (fun _ => true) true fuel 63 cs = some x) :
    ∃ v l, cs = [v] ∧ CtL W (fun b => b < W.heap.size) fuel v l ∧ Ct.wt l ≤ Rows.uptoBulk x.1 := by
  rcases DataW.trod_slice Tryz.underlying63 h with ⟨rfl, rfl⟩ | ⟨a, len, cap, elems, rest, n, rfl, rfl, rfl, -, hl, hm, hlen, hel, -, -⟩
  · exact ⟨_, [], rfl, .inr ⟨rfl, _, _, rfl⟩, Nat.zero_le _⟩
  · rw [cells_ctor] at hel
    have h1 : ∀ i, i < len → ∃ t : Ct, ∃ y cs', elems[i]? = some y ∧ W.cells? 0 (a.add (i * 2)) 2 = some cs' ∧ CtAt W (fun b => b < W.heap.size) n cs' t ∧ t.wt1 ≤ Rows.uptoBulk y.1 := by
      intro i hi
      obtain ⟨y, hy⟩ : ∃ y, elems[i]? = some y := ⟨_, List.getElem?_eq_getElem (by omega)⟩
      have := hel i hi
      rw [hy] at this
      obtain ⟨cs', hcs, htr⟩ := Option.bind_eq_some_iff.1 this
      obtain ⟨t, h1, h2⟩ := open_ctor1 htr
      exact ⟨t, y, cs', hy, hcs, h1, h2⟩
    have inh : Inhabited Ct := ⟨⟨ByteArray.empty, []⟩⟩
    obtain ⟨f, hf⟩ := choose_lt (n := len) (p := fun i (t : Ct) => ∃ y cs', elems[i]? = some y ∧ W.cells? 0 (a.add (i * 2)) 2 = some cs' ∧ CtAt W (fun b => b < W.heap.size) n cs' t ∧ t.wt1 ≤ Rows.uptoBulk y.1) h1
    have hcnt : ∀ (k : Nat) (es : List (DataW H × List MemPlace)), es = elems.drop k → Ct.wt (((List.range len).drop k).map f) ≤ Rows.uptoBulkAll (es.map (·.1)) := by
      intro k es
      induction es generalizing k with
      | nil =>
        intro he
        have : elems.length ≤ k := by have := congrArg List.length he; simp at this; omega
        rw [List.drop_eq_nil_of_le (by rw [List.length_range]; omega)]
        exact Nat.zero_le _
      | cons y es ihh =>
        intro he
        have hk : k < elems.length := by have := congrArg List.length he; simp at this; omega
        rw [List.drop_eq_getElem_cons hk] at he
        injection he with e1 e2
        have h2 := ihh (k + 1) e2
        obtain ⟨y', cs', g1, -, -, g2⟩ := hf k (by omega)
        rw [List.getElem?_eq_getElem hk, ← e1] at g1
        injection g1 with g1
        subst g1
        rw [List.drop_eq_getElem_cons (by rw [List.length_range]; omega), List.getElem_range, List.map_cons, Ct.wt_cons, List.map_cons, Rows.uptoBulkAll]
        omega
    refine ⟨_, (List.range len).map f, rfl, ?_, ?_⟩
    · rcases Nat.eq_zero_or_pos len with h0 | h0
      · subst h0
        exact .inr ⟨rfl, _, _, rfl⟩
      · obtain ⟨b, off, spot⟩ := a
        obtain ⟨_, cs0, -, hcs0, -⟩ := hf 0 h0
        obtain ⟨-, hl0, hc0⟩ := World.cells?_some hcs0
        have c0 := hc0 0 (by decide)
        rw [List.getElem?_eq_getElem (by omega)] at c0
        have hspot : spot = none := by simpa [Addr.add] using World.cell?_spot c0
        subst hspot
        have hb : b < W.heap.size := by simpa [Addr.add] using World.block_lt_of_cell? _ _ c0
        refine .inl ⟨b, off, cap, by rw [List.length_map, List.length_range], hb, by rw [List.length_map, List.length_range]; exact hl, by rw [List.length_map, List.length_range]; omega, fun i t hi => ?_⟩
        rw [List.getElem?_map] at hi
        obtain ⟨j, hj, rfl⟩ := Option.map_eq_some_iff.1 hi
        obtain ⟨hi2, hj2⟩ := List.getElem?_eq_some_iff.1 hj
        rw [List.length_range] at hi2
        rw [List.getElem_range] at hj2
        subst hj2
        obtain ⟨_, cs', -, hcs, hat, -⟩ := hf i hi2
        obtain ⟨-, hcl, hce⟩ := World.cells?_some hcs
        refine ⟨cs', fun q u hu => ?_, hat.le (Nat.le_succ _)⟩
        obtain ⟨hq1, hq2⟩ := List.getElem?_eq_some_iff.1 hu
        have := hce q (by omega)
        rw [addr_add14, addr_add14] at this
        rw [hu] at this
        exact this
    · have := hcnt 0 elems rfl
      rw [List.drop_zero] at this
      rw [Rows.uptoBulk]
      omega
set_option maxRecDepth 100000 in
/-- A list of constructors that came in. -/
theorem open_ctors {base : Nat} {v : Value} {d : DataW H} {p : List MemPlace} (hok : Value.okWide Tryz.prog W .any base 63 v) (h : DataW.Trod enc Tryz.prog W 0 (fun _ => true) true 63 v d p) : ∃ n l, CtL W Any n v l ∧ Ct.wt l ≤ Rows.uptoBulk d := by
  obtain ⟨a0, len, cap, rfl⟩ := okWide_slice Tryz.underlying63 hok
  obtain ⟨fuel, hf⟩ := h
  obtain ⟨v', l, e1, h1, h2⟩ := open_crow hf
  obtain rfl : v' = _ := by simpa [Value.cells] using e1.symm
  exact ⟨fuel, l, h1.any, h2⟩
end Go.Proofs.YtigliglmejkakaaGreat

namespace Go.Proofs.YtigliglmejkakaaGreat
open Go.RowKit
set_option linter.unusedVariables false
set_option linter.unusedSimpArgs false

/-- A row of things of one size, each told by what it is. -/
def RowAt {α : Type} (w : World) (size : Nat) (E : List Value → α → Prop) (v : Value) (l : List α) : Prop :=
  (∃ b o cap, v = .slice (some ⟨b, o, none⟩) l.length cap ∧ b < w.heap.size ∧ l.length ≤ cap ∧ l.length ≤ maxLen ∧ ∀ (i : Nat) x, l[i]? = some x → ∃ vs, vs.length = size ∧ Cells w b (o + i * size) vs ∧ E vs x) ∨ (l = [] ∧ ∃ p c, v = .slice p 0 c)
theorem RowAt.form {α : Type} {w : World} {size : Nat} {E : List Value → α → Prop} {v : Value} {l : List α} (h : RowAt w size E v l) : ∃ a c, v = .slice a l.length c ∧ l.length ≤ maxLen := by
  rcases h with ⟨b, o, cp, h1, -, -, h4, -⟩ | ⟨rfl, p, c, rfl⟩
  · exact ⟨_, _, h1, h4⟩
  · exact ⟨_, _, rfl, Nat.zero_le _⟩
theorem Cells.below {w w' : World} {b o : Nat} {vs : List Value} (h : Cells w b o vs) (hb : Below w.heap.size w w') : Cells w' b o vs := fun j u hu => (hb.cell (World.block_lt_of_cell? w _ (h j u hu))).trans (h j u hu)
theorem RowAt.move {α : Type} {w w' : World} {size : Nat} {E E' : List Value → α → Prop} {v : Value} {l : List α} (h : RowAt w size E v l) (hb : Below w.heap.size w w') (hE : ∀ vs x, x ∈ l → E vs x → E' vs x) : RowAt w' size E' v l := by
  rcases h with ⟨b, o, cp, h1, h2, h3, h4, h5⟩ | h
  · exact .inl ⟨b, o, cp, h1, Nat.lt_of_lt_of_le h2 hb.size, h3, h4, fun i x hx => by obtain ⟨vs, g0, g1, g2⟩ := h5 i x hx; exact ⟨vs, g0, g1.below hb, hE _ _ (List.mem_of_getElem? hx) g2⟩⟩
  · exact .inr h
theorem RowAt.elem {α : Type} {w : World} {size : Nat} {E : List Value → α → Prop} {a : Option Addr} {m c : Nat} {l : List α} (h : RowAt w size E (.slice a m c) l) {i : Nat} {x : α} (hx : l[i]? = some x) : ∃ b o, a = some ⟨b, o, none⟩ ∧ b < w.heap.size ∧ ∃ vs, vs.length = size ∧ Cells w b (o + i * size) vs ∧ E vs x := by
  rcases h with ⟨b, o, cp, h1, h2, h3, h4, h5⟩ | ⟨rfl, -⟩
  · injection h1 with e1 e2 e3
    obtain ⟨vs, g0, g1, g2⟩ := h5 i x hx
    exact ⟨b, o, e1, h2, vs, g0, g1, g2⟩
  · simp at hx
/-- A type in a structure. -/
structure Tm where
  nm : ByteArray
  t : Tp
  cs : List Ct
/-- A value in a structure. -/
structure Vm where
  nm : ByteArray
  g : Int
  t : Tp
def ETy (w : World) (n : Nat) (vs : List Value) (x : Tm) : Prop := ∃ tvs cv, vs = .string x.nm :: (tvs ++ [cv]) ∧ TAt w Any n tvs x.t ∧ CtL w Any n cv x.cs ∧ ∀ c ∈ x.cs, c.nm.size ≤ 1048576
def EVal (w : World) (n : Nat) (vs : List Value) (x : Vm) : Prop := ∃ tvs, vs = .string x.nm :: .int .i64 x.g :: tvs ∧ R64 x.g ∧ TAt w Any n tvs x.t
def Tm.wt (x : Tm) : Nat := x.nm.size + x.t.cnt + Ct.wt x.cs + 1
def Vm.wt (x : Vm) : Nat := x.nm.size + x.t.cnt + 1
def Tm.wtL (l : List Tm) : Nat := (l.map Tm.wt).sum
def Vm.wtL (l : List Vm) : Nat := (l.map Vm.wt).sum
/-- A structure, of at most so much. -/
def SrP (w : World) : Nat → List Value → Nat → Prop
  | 0, _, _ => False
  | n + 1, vs, W => ∃ v0 v1 v2 v3 v4 tms vms ws us, vs = [v0, v1, v2, v3, v4] ∧ RowAt w 5 (ETy w n) v0 tms ∧ RowAt w 5 (EVal w n) v1 vms ∧
      RowAt w 6 (fun vs (x : ByteArray × Nat) => ∃ r, vs = .string x.1 :: r ∧ SrP w n r x.2) v2 ws ∧
      RowAt w 13 (fun vs (x : ByteArray × List Int × Nat × List Int × Nat) => ∃ lv a rv r, vs = .string x.1 :: lv :: (a ++ rv :: r) ∧ a.length = 5 ∧ Ls w Any lv x.2.1 ∧ (∀ z ∈ x.2.1, R64 z) ∧ SrP w n a x.2.2.1 ∧ Ls w Any rv x.2.2.2.1 ∧ (∀ z ∈ x.2.2.2.1, R64 z) ∧ SrP w n r x.2.2.2.2) v3 us ∧
      (∃ a l c, v4 = .slice a l c) ∧
      Tm.wtL tms + Vm.wtL vms + (ws.map fun x => x.1.size + x.2 + 2).sum + (us.map fun x => x.1.size + x.2.1.length + x.2.2.1 + x.2.2.2.1.length + x.2.2.2.2 + 6).sum ≤ W
theorem ETy.below {w w' : World} {n : Nat} {vs : List Value} {x : Tm} (h : ETy w n vs x) (hb : Below w.heap.size w w') : ETy w' n vs x := by
  obtain ⟨tvs, cv, h1, h2, h3, h4⟩ := h
  exact ⟨tvs, cv, h1, h2.below hb, h3.below hb, h4⟩
theorem EVal.below {w w' : World} {n : Nat} {vs : List Value} {x : Vm} (h : EVal w n vs x) (hb : Below w.heap.size w w') : EVal w' n vs x := by
  obtain ⟨tvs, h1, h2, h3⟩ := h
  exact ⟨tvs, h1, h2, h3.below hb⟩
theorem SrP.below {w w' : World} (hb : Below w.heap.size w w') : ∀ {n : Nat} {vs : List Value} {W : Nat}, SrP w n vs W → SrP w' n vs W
  | 0, _, _, h => h
  | n + 1, vs, W, h => by
    obtain ⟨v0, v1, v2, v3, v4, tms, vms, ws, us, h0, h1, h2, h3, h4, h5, h6⟩ := h
    refine ⟨v0, v1, v2, v3, v4, tms, vms, ws, us, h0, h1.move hb fun _ _ _ h => h.below hb, h2.move hb fun _ _ _ h => h.below hb, h3.move hb fun _ x _ ⟨r, g1, g2⟩ => ⟨r, g1, SrP.below hb g2⟩, h4.move hb fun _ x _ ⟨lv, a, rv, r, g1, g2, g3, g4, g5, g6, g7, g8⟩ => ⟨lv, a, rv, r, g1, g2, g3.below hb, g4, SrP.below hb g5, g6.below hb, g7, SrP.below hb g8⟩, h5, h6⟩
end Go.Proofs.YtigliglmejkakaaGreat

namespace Go.Proofs.YtigliglmejkakaaGreat
open Go.RowKit
set_option linter.unusedVariables false
set_option linter.unusedSimpArgs false

/-- A gatherer in G, its fields in a row of their own from base on. -/
structure Gu (G base : Nat) (P : Addr) (n : Nat) (v : Value) (xs : List Value) (w : World) : Prop where
  lo : G < base
  le : base ≤ w.heap.size
  g : Arr w G 196 [.pointer (some P), v]
  own : w.ownsRow base 169 2 v n xs
theorem Gu.stays {G base : Nat} {P : Addr} {n : Nat} {v : Value} {xs : List Value} {w w' : World} (h : Gu G base P n v xs w) (hb : Below w.heap.size w w') : Gu G base P n v xs w' := ⟨h.lo, Nat.le_trans h.le hb.size, h.g.stays hb, own_stays h.own hb⟩
set_option maxHeartbeats 1000000 in
set_option maxRecDepth 100000 in
theorem uadd_any (w : World) (G base : Nat) (P : Addr) (n : Nat) (v : Value) (xs : List Value) (lab : ByteArray) (fn : Fn) (fs bs : Array Value) (h : Gu G base P n v xs w) (hn : n ≤ 1048576 * 4) : Calls Tryz.prog 125 #[.pointer (some ⟨G, 0, none⟩), .string lab, .func fn fs bs] w fun e w' => e = .returned (.tuple #[]) ∧ (∃ v', Gu G base P (n + 1) v' (xs ++ [.string lab, .func fn fs bs]) w') ∧ Ad G w w' := by
  obtain ⟨p, c, rfl⟩ := own_form h.own
  have g0 := h.g.cell
  have g1 : ∀ o, (w.alloc o).cell? ⟨G, 1, none⟩ = some (.slice p n c) := fun o => (h.g.stays (bl_alloc (Below.refl _ _) o)).cell 1
  obtain ⟨i0, hi0, hz0, hz1, hz2⟩ := info_parts0 info_field
  have HG := hid h
  clear h
  go_enter Tryz.func125, Tryz.ntmps125
  go_wp2_with (at_builtin; refine wpList_append_own _ rfl _ _ 163 rfl base 169 i0 (.agg #[.string ByteArray.empty, .nilFunc]) 2 24 Tryz.underlying163 hi0 hz0 hz1 hz2 rfl (by decide) _ n xs rfl (HG.out.own.alloc _) ⟨w.heap.size, 0, none⟩ 1 1 [.string lab, .func fn fs bs] rfl rfl ?c1 ?c2 ?c3 ?c4 ?c5 ?_)
  case c1 =>
    intro j u hj
    match j, hj with
    | 0, hj => simp at hj; subst hj; simp [Addr.add]
    | 1, hj => simp at hj; subst hj; simp [Addr.add]
    | j + 2, hj => simp at hj
  case c2 => intro u hu; simp at hu; rcases hu with rfl | rfl <;> rfl
  case c3 => unfold maxLen; omega
  case c4 => omega
  case c5 => have := HG.out.le; simp; omega
  intro v' w2 hown hgrow _
  have HA : Hid (Gu G base P n (.slice p n c) xs (w.alloc (.cells #[.string lab, .func fn fs bs] 169))) := HG.out.stays (bl_alloc (Below.refl _ _) _)
  have hne : some G ≠ (Value.slice p n c).ownBlock := fun e => by have := (HG.out.own.lt G e.symm).1; have := HG.out.lo; omega
  have HG2 : Hid (Arr w2 G 196 [.pointer (some P), .slice p n c]) := HA.out.g.grown hgrow hne
  have x2 := HG2.out.cell
  have z2 := HG2.out.frozen
  obtain ⟨va, vc, rfl⟩ := own_form hown
  have HO := hid hown
  have HGR := hid hgrow
  clear hown hgrow g0 g1
  go_wp2
  first | refine bodyPost_end (results_none rfl _ _ _) rfl ?_ | refine bodyPost_ret (results_none rfl _ _ _) rfl ?_
  have hlo := HG.out.lo
  have hle := HG.out.le
  have hrow' : ∀ b, (Value.slice va (n + 1) vc).ownBlock = some b → base ≤ b := fun b hb => (HO.out.lt b hb).1
  refine ⟨rfl, ⟨_, ⟨hlo, ?_, HG2.out.set 1 _, ?_⟩⟩, ⟨?_, ?_, ?_⟩⟩
  · have := HGR.out.size; simp [World.setCell] at *; omega
  · exact HO.out.kept (row := some G) ⟨rfl, rfl, rfl, by simp [World.setCell], fun b _ hb => Below.heap_setCell _ _ _ _ (fun e => hb (by simp [e]))⟩ (Or.inr (fun e => by have := hrow' _ e; omega))
  · have := HGR.out.size; simp [World.setCell] at *; omega
  · have hB1 : Below G w (w.alloc (.cells #[.string lab, .func fn fs bs] 169)) := (bl_alloc (Below.refl w.heap.size w) _).mono (by omega)
    have hB2 : Below G w w2 := hB1.grown HGR.out (by simp; omega) (fun b e => by have := (HG.out.own.lt b e).1; omega)
    exact hB2.setCell (p := ⟨G, 1, none⟩) (Nat.le_refl _) _
  · intro b T cur hb hT hA
    exact ((hA.stays (bl_alloc (Below.refl _ _) _)).grown HGR.out (own_typed HA.out.own (hA.stays (bl_alloc (Below.refl _ _) _)) hT)).other (p := ⟨G, 1, none⟩) hb _

/-- What a call that makes a target type answers: the type, and the error's number. -/
abbrev An := Tgt.Tt × Int
def AnsOf (w : World) (a : An) (e : Ending) (w' : World) : Prop :=
  (∃ p' q' p q N, e = .returned (.tuple #[.agg #[.int .i64 a.1.k, .int .i64 a.1.n, .slice p' a.1.ls.length q', .slice p a.1.ks.length q], .int .i64 a.2]) ∧ Tgt.TAt w' (fun b => w.heap.size ≤ b) N [.int .i64 a.1.k, .int .i64 a.1.n, .slice p' a.1.ls.length q', .slice p a.1.ks.length q] a.1) ∧ Below w.heap.size w w'
def zeroA : Tgt.Tt := .mk 0 0 [] []
def ansB (ok : Bool) (y : Tgt.Tt) : An := bif ok then (y, 0) else (zeroA, 1)
theorem AnsOf.err {w w' : World} (x : Int) (hb : Below w.heap.size w w') : AnsOf w (zeroA, x) (.returned (.tuple #[.agg #[.int .i64 0, .int .i64 0, .slice none 0 0, .slice none 0 0], .int .i64 x])) w' :=
  ⟨⟨none, 0, none, 0, 1, rfl, tat_leaf 0 0 (⟨by omega, by omega⟩ : Tgt.R64 0) (⟨by omega, by omega⟩ : Tgt.R64 0)⟩, hb⟩
theorem TtAns2.ans {ok : Bool} {y : Tgt.Tt} {w w' : World} {e : Ending} (h : TtAns2 ok y w e w') (hb : Below w.heap.size w w') : AnsOf w (ansB ok y) e w' := by
  rcases h with ⟨rfl, a', c', a, c, N, h1, h2⟩ | ⟨rfl, rfl⟩
  · exact ⟨⟨a', c', a, c, N, h1, h2⟩, hb⟩
  · exact AnsOf.err 1 hb
/-- A maker: it answers so wherever its boxes lie as they lie now. -/
def Mk (w0 w : World) (G : Nat) (g : FuncId) (bs : Array Value) (a : An) : Prop :=
  Enters g ∧ ∃ bx : List (Nat × TypeId × List Value), (∀ x ∈ bx, x.1 ≠ G ∧ x.2.1 ≠ 169 ∧ Arr w x.1 x.2.1 x.2.2) ∧ ∀ wz, Below w0.heap.size w0 wz → (∀ x ∈ bx, Arr wz x.1 x.2.1 x.2.2) → Calls Tryz.prog g bs wz (AnsOf wz a)
theorem Mk.on {w0 w w' : World} {G : Nat} {g : FuncId} {bs : Array Value} {a : An} (h : Mk w0 w G g bs a) (ha : Ad G w w') : Mk w0 w' G g bs a := by
  obtain ⟨h0, bx, h1, h2⟩ := h
  exact ⟨h0, bx, fun x hx => ⟨(h1 x hx).1, (h1 x hx).2.1, ha.arr _ _ _ (h1 x hx).1 (h1 x hx).2.1 (h1 x hx).2.2⟩, h2⟩
theorem Mk.stays {w0 w w' : World} {G : Nat} {g : FuncId} {bs : Array Value} {a : An} (h : Mk w0 w G g bs a) (hb : Below w.heap.size w w') : Mk w0 w' G g bs a := by
  obtain ⟨h0, bx, h1, h2⟩ := h
  exact ⟨h0, bx, fun x hx => ⟨(h1 x hx).1, (h1 x hx).2.1, (h1 x hx).2.2.stays hb⟩, h2⟩
/-- A field: its label, and its maker's function and boxes. -/
structure Fd where
  lab : ByteArray
  g : FuncId
  bs : Array Value
def flatF : List Fd → List Value
  | [] => []
  | f :: r => .string f.lab :: .func (.func f.g) #[] f.bs :: flatF r
theorem flatF_app (l : List Fd) (f : Fd) : flatF (l ++ [f]) = flatF l ++ [.string f.lab, .func (.func f.g) #[] f.bs] := by
  induction l with
  | nil => rfl
  | cons x r ih => simp only [List.cons_append, flatF, ih]
theorem flatF_len (l : List Fd) : (flatF l).length = l.length * 2 := by
  induction l with
  | nil => rfl
  | cons x r ih => simp only [flatF, List.length_cons, ih]; omega
theorem flatF_at {l : List Fd} : ∀ {i : Nat} {f : Fd}, l[i]? = some f → (flatF l)[i * 2]? = some (.string f.lab) ∧ (flatF l)[i * 2 + 1]? = some (.func (.func f.g) #[] f.bs) := by
  induction l with
  | nil => intro i f h; simp at h
  | cons x r ih =>
    intro i f h
    cases i with
    | zero => simp at h; subst h; exact ⟨rfl, rfl⟩
    | succ i =>
      simp only [List.getElem?_cons_succ] at h
      have := ih h
      rw [show (i + 1) * 2 = i * 2 + 1 + 1 by omega]
      exact this
/-- A gatherer that has these labels. -/
structure GS (w0 : World) (G base : Nat) (P : Addr) (fl : List (ByteArray × An)) (fs : List Fd) (v : Value) (w : World) : Prop where
  gt : Gu G base P fl.length v (flatF fs) w
  len : fs.length = fl.length
  mks : ∀ (i : Nat) f x, fs[i]? = some f → fl[i]? = some x → f.lab = x.1 ∧ Mk w0 w G f.g f.bs x.2
  lo : w0.heap.size ≤ G
  bl : Below w0.heap.size w0 w
theorem GS.stays {w0 w w' : World} {G base : Nat} {P : Addr} {fl : List (ByteArray × An)} {fs : List Fd} {v : Value} (h : GS w0 G base P fl fs v w) (hb : Below w.heap.size w w') : GS w0 G base P fl fs v w' :=
  ⟨h.gt.stays hb, h.len, fun i f x hf hx => ⟨(h.mks i f x hf hx).1, (h.mks i f x hf hx).2.stays hb⟩, h.lo, bl_tr h.bl hb⟩
theorem gs_add (w0 w : World) (G base : Nat) (P : Addr) (fl : List (ByteArray × An)) (fs : List Fd) (v : Value) (lab : ByteArray) (g : FuncId) (bs : Array Value) (a : An) (h : GS w0 G base P fl fs v w) (hm : Mk w0 w G g bs a) (hn : fl.length ≤ 1048576 * 4) :
    Calls Tryz.prog 125 #[.pointer (some ⟨G, 0, none⟩), .string lab, .func (.func g) #[] bs] w fun e w' => e = .returned (.tuple #[]) ∧ (∃ v', GS w0 G base P (fl ++ [(lab, a)]) (fs ++ [⟨lab, g, bs⟩]) v' w') ∧ Ad G w w' := by
  refine (uadd_any w G base P fl.length v (flatF fs) lab (.func g) #[] bs h.gt hn).mono ?_
  rintro e w' ⟨rfl, ⟨v', hg⟩, ad⟩
  refine ⟨rfl, ⟨v', ⟨?_, ?_, ?_, h.lo, h.bl.trans (ad.bl.mono h.lo)⟩⟩, ad⟩
  · rw [flatF_app, List.length_append]; exact hg
  · rw [List.length_append, List.length_append, h.len]; rfl
  · intro i f x hf hx
    by_cases hi : i < fs.length
    · rw [List.getElem?_append_left hi] at hf
      rw [List.getElem?_append_left (by have := h.len; omega)] at hx
      exact ⟨(h.mks i f x hf hx).1, (h.mks i f x hf hx).2.on ad⟩
    · have hi2 : i = fs.length := by
        have := (List.getElem?_eq_some_iff.1 hf).1
        rw [List.length_append] at this
        simp at this
        omega
      subst hi2
      rw [List.getElem?_append_right (Nat.le_refl _)] at hf
      rw [h.len, List.getElem?_append_right (Nat.le_refl _)] at hx
      simp at hf hx
      subst hf
      subst hx
      exact ⟨rfl, hm.on ad⟩
end Go.Proofs.YtigliglmejkakaaGreat
