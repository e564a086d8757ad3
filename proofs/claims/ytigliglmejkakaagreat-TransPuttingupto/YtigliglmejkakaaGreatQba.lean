/- Str of alive's structure; alive. A list of constructors that came in. TransTypes: the walk, over what the program's Type and Scheme answer. TransData: the walk, over what the program's Sum, Rep and Con answer. How great target types are that were made. A type put in place of a stamp, and made: mathematics. A type put in place of a stamp still becomes a target type: mathematics. -/
import Derived.Test.YtigliglmejkakaaGreatQaz
import Derived.Test.YtigliglmejkakaaGreatQaw
import Derived.Test.YtigliglmejkakaaGreatQae
import Derived.Test.YtigliglmejkakaaGreatQav
namespace Go.Proofs.YtigliglmejkakaaGreat
open Go.RowKit Go.Shelf Go.Sort
set_option linter.unusedVariables false
set_option linter.unusedSimpArgs false

theorem ctl_cells {w : World} {r : Nat} (hl : CtL w Any 2 (.slice (some ⟨r, 0, none⟩) 2 2) listC) : ∃ a0 p0 a1 p1, w.cell? ⟨r, 0, none⟩ = some (.string (ByteArray.mk #[78, 105, 108])) ∧ w.cell? ⟨r, 1, none⟩ = some (.slice a0 0 p0) ∧ w.cell? ⟨r, 2, none⟩ = some (.string (ByteArray.mk #[67, 111, 110, 115])) ∧ w.cell? ⟨r, 3, none⟩ = some (.slice a1 1 p1) := by
  rcases hl with ⟨b, o, cp, hv, -, -, -, h5⟩ | ⟨h, -⟩
  · injection hv with e1 e2 e3
    injection e1 with e1
    injection e1 with e1 e4
    subst e1
    subst e4
    obtain ⟨vs, g1, g2⟩ := h5 0 _ rfl
    obtain ⟨ga, gc, rfl, -⟩ := g2.form
    obtain ⟨us, k1, k2⟩ := h5 1 _ rfl
    obtain ⟨ha, hc, rfl, -⟩ := k2.form
    exact ⟨ga, gc, ha, hc, by simpa using g1 0 _ rfl, by simpa using g1 1 _ rfl, by simpa using k1 0 _ rfl, by simpa using k1 1 _ rfl⟩
  · cases h

set_option maxHeartbeats 1000000 in
set_option maxRecDepth 100000 in
theorem str14 (w : World) (tb r : Nat) (hm : Arr w tb 67 [.string (ByteArray.mk #[116]), .int .i64 6, .int .i64 5, .slice none 0 0, .slice (some ⟨r, 0, none⟩) 2 2]) (hl : CtL w Any 2 (.slice (some ⟨r, 0, none⟩) 2 2) listC) :
    Calls Tryz.prog 18 #[.agg #[.slice (some ⟨tb, 0, none⟩) 1 1, .slice none 0 0, .slice none 0 0, .slice none 0 0, .slice none 0 0]] w fun e w' => (∃ lb kb, e = .returned (.tuple #[.agg #[.int .i64 7, .int .i64 0, .slice (some ⟨lb, 0, none⟩) 3 3, .slice (some ⟨kb, 0, none⟩) 3 3], .int .i64 0]) ∧ w'.cell? ⟨lb, 0, none⟩ = some (.string ⟨bC.toArray⟩) ∧ w'.cell? ⟨lb, 2, none⟩ = some (.string ⟨bO.toArray⟩) ∧ lb < w'.heap.size) ∧ Below w.heap.size w w' := by
  have HB2 : Hid (Below w.heap.size w ((w.alloc (.cells #[.slice (some ⟨tb, 0, none⟩) 1 1, .slice none 0 0, .slice none 0 0, .slice none 0 0, .slice none 0 0] 49)).alloc (.cells #[.int .i64 0, .int .i64 0, .slice none 0 0, .slice none 0 0] 28))) := bl_alloc (bl_alloc (Below.refl _ _) _) _
  have X2 : Hid (Arr ((w.alloc (.cells #[.slice (some ⟨tb, 0, none⟩) 1 1, .slice none 0 0, .slice none 0 0, .slice none 0 0, .slice none 0 0] 49)).alloc (.cells #[.int .i64 0, .int .i64 0, .slice none 0 0, .slice none 0 0] 28)) w.heap.size 49 [.slice (some ⟨tb, 0, none⟩) 1 1, .slice none 0 0, .slice none 0 0, .slice none 0 0, .slice none 0 0]) := Arr.stays ⟨heap_alloc_at _ _⟩ (bl_alloc (Below.refl _ _) _)
  have Y2 : Hid (Arr ((w.alloc (.cells #[.slice (some ⟨tb, 0, none⟩) 1 1, .slice none 0 0, .slice none 0 0, .slice none 0 0, .slice none 0 0] 49)).alloc (.cells #[.int .i64 0, .int .i64 0, .slice none 0 0, .slice none 0 0] 28)) (w.heap.size + 1) 28 [.int .i64 0, .int .i64 0, .slice none 0 0, .slice none 0 0]) := ⟨by have := heap_alloc_at (w.alloc (.cells #[.slice (some ⟨tb, 0, none⟩) 1 1, .slice none 0 0, .slice none 0 0, .slice none 0 0, .slice none 0 0] 49)) (.cells #[.int .i64 0, .int .i64 0, .slice none 0 0, .slice none 0 0] 28); rw [size_alloc] at this; exact this⟩
  obtain ⟨a0, p0, a1, p1, c0, c1, c2, c3⟩ := ctl_cells (hl.below HB2.out)
  have HQ := hid (record14 ((w.alloc (.cells #[.slice (some ⟨tb, 0, none⟩) 1 1, .slice none 0 0, .slice none 0 0, .slice none 0 0, .slice none 0 0] 49)).alloc (.cells #[.int .i64 0, .int .i64 0, .slice none 0 0, .slice none 0 0] 28)) w.heap.size tb r ⟨a0, p0, a1, p1, X2.out, hm.stays HB2.out, c0, c1, c2, c3⟩ (hl.below HB2.out))
  have HSS : Hid (∀ (W : World) i u, Below w.heap.size w W → Below w.heap.size w (W.setCell ⟨w.heap.size + 1, i, none⟩ u)) := fun W i u h => bl_set _ _ h (by show _ ≤ w.heap.size + 1; omega)
  clear hm hl c0 c1 c2 c3
  go_enter Tryz.func18, Tryz.ntmps18
  go_wp2_with (go_at_call 43; refine HQ.out.mono ?_; rintro e w3 ⟨⟨lb, kb, rfl, q0, q2, hlb⟩, b3⟩; have HB3 := hid (bl_tr HB2.out b3); have r3 := (Y2.out.stays b3).cell; have s3 := (Y2.out.stays b3).frozen; have HQ0 := hid q0; have HQ2 := hid q2; have HLB := hid hlb; clear b3 q0 q2 hlb)
  refine bodyPost_ret (v := .tuple #[.agg #[.int .i64 7, .int .i64 0, .slice (some ⟨lb, 0, none⟩) 3 3, .slice (some ⟨kb, 0, none⟩) 3 3], .int .i64 0]) (by rw [results_cell2t (fn := Tryz.f18) (p := 2) (a := 3) (ty := 28) (by kernel_rfl)]; simp [go_sem, r3, s3]) rfl ?_
  by_cases hne : lb = w.heap.size + 1
  · exfalso
    subst hne
    have := r3 0
    rw [HQ0.out] at this
    cases this
  have hsz : ∀ (W : World) q u, (W.setCell ⟨w.heap.size + 1, q, none⟩ u).heap.size = W.heap.size := fun W q u => by simp [World.setCell]
  have hce : ∀ (W : World) q u o v, W.cell? ⟨lb, o, none⟩ = some v → (W.setCell ⟨w.heap.size + 1, q, none⟩ u).cell? ⟨lb, o, none⟩ = some v := fun W q u o v h => (World.cell?_of_block (w := W) (Below.heap_setCell _ _ _ _ hne)).trans h
  exact ⟨⟨lb, kb, rfl, hce _ _ _ _ _ (hce _ _ _ _ _ (hce _ _ _ _ _ (hce _ _ _ _ _ HQ0.out))), hce _ _ _ _ _ (hce _ _ _ _ _ (hce _ _ _ _ _ (hce _ _ _ _ _ HQ2.out))), by rw [hsz, hsz, hsz, hsz]; exact HLB.out⟩, HSS.out _ _ _ (HSS.out _ _ _ (HSS.out _ _ _ (HSS.out _ _ _ HB3.out)))⟩

theorem okRep5 : okRep 5 listC = true := by decide
theorem bad7 : Tp.okT (.mk 7 0 []) = false := by decide

set_option maxHeartbeats 4000000 in
set_option maxRecDepth 100000 in
theorem alive14 (w : World) : Calls Tryz.prog 7 #[] w fun e w' => e = .returned (.bool true) ∧ Below w.heap.size w w' := by
  have hR : Hid (∀ (wz : World) (r : Nat), CtL wz Any 2 (.slice (some ⟨r, 0, none⟩) 2 2) listC → Calls Tryz.prog 23 #[.int .i64 5, .slice (some ⟨r, 0, none⟩) 2 2] wz fun e w' => (∃ a' c' kb ko c N, e = .returned (.tuple #[.agg #[.int .i64 9, .int .i64 5, .slice a' 0 c', .slice (some ⟨kb, ko, none⟩) 1 c], .int .i64 0]) ∧ (∃ x y z d, w'.cell? ⟨kb, ko, none⟩ = some x ∧ w'.cell? ⟨kb, ko + 1, none⟩ = some y ∧ w'.cell? ⟨kb, ko + 2, none⟩ = some z ∧ w'.cell? ⟨kb, ko + 3, none⟩ = some (.slice N 2 d)) ∧ kb < w'.heap.size) ∧ Below wz.heap.size wz w') := by
    intro wz r h
    refine (Rep_any wz 2 5 _ listC h (by decide) (by decide)).mono ?_
    rintro e w' ⟨h1, h2⟩
    rw [okRep5] at h1
    obtain ⟨a', c', a, c, N, g, hT⟩ := h1.yes
    refine ⟨?_, h2⟩
    cases N with
    | zero => exact hT.elim
    | succ N =>
      obtain ⟨u, v, hv, -, -, -, hL⟩ := hT.open_
      have hv2 : v = .slice a 1 c := by
        simp only [List.cons.injEq, and_true, true_and] at hv
        exact hv.2.symm
      subst hv2
      obtain ⟨b, o, rfl, hP⟩ := hL.elem (i := 0) (x := sumT listC) rfl
      obtain ⟨N, rfl⟩ := hP.pos
      obtain ⟨x', y', z, d, k0, k1, k2, k3⟩ := hP.cells
      simp only [Nat.zero_mul, Nat.add_zero] at k0 k1 k2 k3
      exact ⟨a', c', b, o, c, z, g, ⟨_, _, _, d, k0, k1, k2, k3.1⟩, World.block_lt_of_cell? _ _ k0⟩
  have hTy : Hid (∀ wz, Calls Tryz.prog 6 #[.agg #[.int .i64 7, .int .i64 0, .slice none 0 0]] wz fun e w' => e = .returned (.tuple #[.agg #[.int .i64 0, .int .i64 0, .slice none 0 0, .slice none 0 0], .int .i64 1]) ∧ Below wz.heap.size wz w') := fun wz => (TType_any wz 1 _ (.mk 7 0 []) (tat0 7 0 ⟨by omega, by omega⟩ ⟨by omega, by omega⟩) (by decide)).mono fun e w' ⟨h1, h2⟩ => ⟨by rw [bad7] at h1; exact (h1.resolve_left (fun h => by cases h.1)).2, h2⟩
  have mk1 : Hid True := trivial
  go_enter Tryz.func7, Tryz.ntmps7
  go_wp2_with (first | (go_at_call 24; have := mk1; refine (list14 _).mono ?_; rintro e w1 ⟨r1, rfl, hl1, b1⟩; have HL1 := hid hl1; have HB1 := hid b1; clear hl1 b1 mk1) | (go_at_call 23; refine (hR.out _ r1 HL1.out).mono ?_; rintro e w2 ⟨⟨a2', c2', kb2, ko2, c2, z2, rfl, hc2, hk2⟩, b2⟩; have HC2 := hid hc2; have HK2 := hid hk2; have HB2 := hid (bl_alloc (bl_tr HB1.out b2) (.cells #[.int .i64 9, .int .i64 5, .slice a2' 0 c2', .slice (some ⟨kb2, ko2, none⟩) 1 c2] 28)); have A2 : Hid (Arr (w2.alloc (.cells #[.int .i64 9, .int .i64 5, .slice a2' 0 c2', .slice (some ⟨kb2, ko2, none⟩) 1 c2] 28)) w2.heap.size 28 [.int .i64 9, .int .i64 5, .slice a2' 0 c2', .slice (some ⟨kb2, ko2, none⟩) 1 c2]) := ⟨heap_alloc_at _ _⟩; clear hc2 hk2 b2) | (go_at_call 25; refine (stamp14 _ 5).mono ?_; rintro e w3 ⟨rfl, b3⟩; have HB3 := hid (bl_tr HB2.out b3); have HE3 := hid (bl_tr (bl_alloc (Below.refl w2.heap.size w2) (.cells #[.int .i64 9, .int .i64 5, .slice a2' 0 c2', .slice (some ⟨kb2, ko2, none⟩) 1 c2] 28)) b3); have A3 := hid (A2.out.stays b3); clear b3) | (go_at_call 24; refine (list14 _).mono ?_; rintro e w4 ⟨r3, rfl, hl4, b4⟩; have hb4 := bl_alloc b4 (.cells #[.string (ByteArray.mk #[116]), .int .i64 6, .int .i64 5, .slice none 0 0, .slice (some ⟨r3, 0, none⟩) 2 2] 67); have HL4 := hid (hl4.below (bl_alloc (Below.refl _ _) (.cells #[.string (ByteArray.mk #[116]), .int .i64 6, .int .i64 5, .slice none 0 0, .slice (some ⟨r3, 0, none⟩) 2 2] 67))); have M4 : Hid (Arr (w4.alloc (.cells #[.string (ByteArray.mk #[116]), .int .i64 6, .int .i64 5, .slice none 0 0, .slice (some ⟨r3, 0, none⟩) 2 2] 67)) w4.heap.size 67 [.string (ByteArray.mk #[116]), .int .i64 6, .int .i64 5, .slice none 0 0, .slice (some ⟨r3, 0, none⟩) 2 2]) := ⟨heap_alloc_at _ _⟩; have HB4 := hid (bl_tr HB3.out hb4); have HE4 := hid (bl_tr HE3.out hb4); have A4 := hid (A3.out.stays hb4); clear hl4 b4 hb4) | (go_at_call 18; refine (str14 _ w4.heap.size r3 M4.out HL4.out).mono ?_; rintro e w5 ⟨⟨lb, kb, rfl, q0, q2, hlb⟩, b5⟩; have hb5 := bl_alloc b5 (.cells #[.int .i64 7, .int .i64 0, .slice (some ⟨lb, 0, none⟩) 3 3, .slice (some ⟨kb, 0, none⟩) 3 3] 28); have HB5 := hid (bl_tr HB4.out hb5); have HE5 := hid (bl_tr HE4.out hb5); have A5 := hid (A4.out.stays hb5); have S5 : Hid (Arr (w5.alloc (.cells #[.int .i64 7, .int .i64 0, .slice (some ⟨lb, 0, none⟩) 3 3, .slice (some ⟨kb, 0, none⟩) 3 3] 28)) w5.heap.size 28 [.int .i64 7, .int .i64 0, .slice (some ⟨lb, 0, none⟩) 3 3, .slice (some ⟨kb, 0, none⟩) 3 3]) := ⟨heap_alloc_at _ _⟩; have HF5 := hid (bl_alloc (Below.refl w5.heap.size w5) (.cells #[.int .i64 7, .int .i64 0, .slice (some ⟨lb, 0, none⟩) 3 3, .slice (some ⟨kb, 0, none⟩) 3 3] 28)); have HQ0 := hid q0; have HQ2 := hid q2; have HLB := hid hlb; clear b5 hb5 q0 q2 hlb) | (go_at_call 6; refine (hTy.out _).mono ?_; rintro e w6 ⟨rfl, b6⟩; have hb6 := bl_alloc b6 (.cells #[.int .i64 0, .int .i64 0, .slice none 0 0, .slice none 0 0] 28); have HB6 := hid (bl_tr HB5.out hb6); have HE6 := hid (bl_tr HE5.out hb6); have A6 := hid (A5.out.stays hb6); have S6 := hid (S5.out.stays hb6); have HF6 := hid (bl_tr HF5.out hb6); have x1 := A6.out.cell; have x3 := S6.out.cell; obtain ⟨x, y, z, d, k0, k1, k2, k3⟩ := HC2.out; have y3 := (HE6.out.cell (p := ⟨kb2, ko2 + 3, none⟩) HK2.out).trans k3; have y4 := (HF6.out.cell (p := ⟨lb, 0, none⟩) HLB.out).trans HQ0.out; have y5 := (HF6.out.cell (p := ⟨lb, 2, none⟩) HLB.out).trans HQ2.out; clear b6 hb6 k0 k1 k2 k3))
  go_ret
  exact ⟨rfl, HB6.out⟩
end Go.Proofs.YtigliglmejkakaaGreat

namespace Go.Proofs.YtigliglmejkakaaGreat
open Go.ChangeShapes Go.WideShapes Go.ChangeAt Go.RowKit Go.Deep
set_option linter.unusedVariables false
set_option linter.unusedSimpArgs false

theorem cells_ctor : Tryz.prog.cellsOf 125 = 2 := by kernel_rfl
theorem cells_str : Tryz.prog.cellsOf 9 = 1 := by kernel_rfl
theorem cells_ctors : Tryz.prog.cellsOf 63 = 1 := by kernel_rfl
/-- Nodes of a constructor, one for itself. -/
def Ct.wt1 (c : Ct) : Nat := Tp.cntL c.args + 1
def Ct.wt (l : List Ct) : Nat := (l.map Ct.wt1).sum
theorem Ct.wt_cons (c : Ct) (l : List Ct) : Ct.wt (c :: l) = c.wt1 + Ct.wt l := by unfold Ct.wt; rw [List.map_cons, List.sum_cons]
theorem Ct.wt_le : ∀ l : List Ct, Ct.cntL l + l.length = Ct.wt l
  | [] => rfl
  | c :: r => by
    have := Ct.wt_le r
    rw [Ct.wt_cons]
    unfold Ct.cntL Ct.wt1 at *
    simp only [List.map_cons, List.sum_cons, List.length_cons]
    omega
theorem CtL.any {w : World} {K : Nat → Prop} {n : Nat} {v : Value} {l : List Ct} (h : CtL w K n v l) : CtL w Any n v l := by
  rcases h with ⟨b, o, cp, h1, h2, h3, h4, h5⟩ | h
  · exact .inl ⟨b, o, cp, h1, trivial, h3, h4, fun i c hc => by obtain ⟨vs, g1, v, g2, g3⟩ := h5 i c hc; exact ⟨vs, g1, v, g2, g3.any⟩⟩
  · exact .inr h
theorem CtAt.le {w : World} {K : Nat → Prop} {n m : Nat} {vs : List Value} {c : Ct} (h : CtAt w K n vs c) (hm : n ≤ m) : CtAt w K m vs c := by
  obtain ⟨v, h1, h2⟩ := h
  exact ⟨v, h1, h2.le hm⟩
variable {H : Type} {enc : TypeId × Value → H} {W : World}
set_option maxRecDepth 100000 in
theorem open_ctor1 {n : Nat} {cs : List Value} {x : DataW H × List MemPlace} (h : DataW.trod enc Tryz.prog W 0 (fun _ => true) true n 125 cs = some x) : ∃ c : Ct, CtAt W (fun b => b < W.heap.size) n cs c ∧ c.wt1 ≤ Rows.uptoBulk x.1 := by
  obtain ⟨xs, n', rfl, rfl, hl, hlen, hf⟩ := DataW.trod_struct Tryz.underlying125 h
  rw [cells_ctor] at hl
  match cs, hl, xs, hlen with
  | [c0, c1], _, [y0, y1], _ =>
    have h0 := hf 0 _ rfl
    have h1 := hf 1 _ rfl
    replace h0 : DataW.trod enc Tryz.prog W 0 (fun _ => true) true n' 9 [c0] = some y0 := by simpa [cells_str] using h0
    replace h1 : DataW.trod enc Tryz.prog W 0 (fun _ => true) true n' 22 [c1] = some y1 := by simpa [cells_str, cells_tys] using h1
    obtain ⟨s0, e0, rfl, -⟩ := DataW.trod_string Tryz.underlying9 h0
    obtain rfl : c0 = _ := by simpa using e0
    obtain ⟨v1, l1, e1, a1, b1⟩ := open_row (fun m hm => opens_all m) h1
    obtain rfl : c1 = _ := by simpa using e1
    refine ⟨⟨s0, l1⟩, ⟨_, rfl, a1.le (Nat.le_succ _)⟩, ?_⟩
    simp only [Ct.wt1, Rows.uptoBulk, Rows.uptoBulkAll, List.map_cons, List.map_nil]
    omega
set_option maxRecDepth 100000 in
theorem open_crow {fuel : Nat} {cs : List Value} {x : DataW H × List MemPlace} (h : DataW.trod enc Tryz.prog W 0 (fun _ => true) true fuel 63 cs = some x) :
    ∃ v l, cs = [v] ∧ CtL W (fun b => b < W.heap.size) fuel v l ∧ Ct.wt l ≤ Rows.uptoBulk x.1 := by
  rcases DataW.trod_slice Tryz.underlying63 h with ⟨rfl, rfl⟩ | ⟨a, len, cap, elems, rest, n, rfl, rfl, rfl, -, hl, hm, hlen, hel, -, -⟩
  · exact ⟨_, [], rfl, .inr ⟨rfl, _, _, rfl⟩, Nat.zero_le _⟩
  · rw [cells_ctor] at hel
    have h1 : ∀ i, i < len → ∃ t : Ct, ∃ y cs', elems[i]? = some y ∧ W.cells? 0 (a.add (i * 2)) 2 = some cs' ∧ CtAt W (fun b => b < W.heap.size) n cs' t ∧ t.wt1 ≤ Rows.uptoBulk y.1 := by
      intro i hi
      obtain ⟨y, hy⟩ : ∃ y, elems[i]? = some y := ⟨_, List.getElem?_eq_getElem (by omega)⟩
      have := hel i hi
      rw [hy] at this
      obtain ⟨cs', hcs, htr⟩ := Option.bind_eq_some_iff.1 this
      obtain ⟨t, h1, h2⟩ := open_ctor1 htr
      exact ⟨t, y, cs', hy, hcs, h1, h2⟩
    have inh : Inhabited Ct := ⟨⟨ByteArray.empty, []⟩⟩
    obtain ⟨f, hf⟩ := choose_lt (n := len) (p := fun i (t : Ct) => ∃ y cs', elems[i]? = some y ∧ W.cells? 0 (a.add (i * 2)) 2 = some cs' ∧ CtAt W (fun b => b < W.heap.size) n cs' t ∧ t.wt1 ≤ Rows.uptoBulk y.1) h1
    have hcnt : ∀ (k : Nat) (es : List (DataW H × List MemPlace)), es = elems.drop k → Ct.wt (((List.range len).drop k).map f) ≤ Rows.uptoBulkAll (es.map (·.1)) := by
      intro k es
      induction es generalizing k with
      | nil =>
        intro he
        have : elems.length ≤ k := by have := congrArg List.length he; simp at this; omega
        rw [List.drop_eq_nil_of_le (by rw [List.length_range]; omega)]
        exact Nat.zero_le _
      | cons y es ihh =>
        intro he
        have hk : k < elems.length := by have := congrArg List.length he; simp at this; omega
        rw [List.drop_eq_getElem_cons hk] at he
        injection he with e1 e2
        have h2 := ihh (k + 1) e2
        obtain ⟨y', cs', g1, -, -, g2⟩ := hf k (by omega)
        rw [List.getElem?_eq_getElem hk, ← e1] at g1
        injection g1 with g1
        subst g1
        rw [List.drop_eq_getElem_cons (by rw [List.length_range]; omega), List.getElem_range, List.map_cons, Ct.wt_cons, List.map_cons, Rows.uptoBulkAll]
        omega
    refine ⟨_, (List.range len).map f, rfl, ?_, ?_⟩
    · rcases Nat.eq_zero_or_pos len with h0 | h0
      · subst h0
        exact .inr ⟨rfl, _, _, rfl⟩
      · obtain ⟨b, off, spot⟩ := a
        obtain ⟨_, cs0, -, hcs0, -⟩ := hf 0 h0
        obtain ⟨-, hl0, hc0⟩ := World.cells?_some hcs0
        have c0 := hc0 0 (by decide)
        rw [List.getElem?_eq_getElem (by omega)] at c0
        have hspot : spot = none := by simpa [Addr.add] using World.cell?_spot c0
        subst hspot
        have hb : b < W.heap.size := by simpa [Addr.add] using World.block_lt_of_cell? _ _ c0
        refine .inl ⟨b, off, cap, by rw [List.length_map, List.length_range], hb, by rw [List.length_map, List.length_range]; exact hl, by rw [List.length_map, List.length_range]; omega, fun i t hi => ?_⟩
        rw [List.getElem?_map] at hi
        obtain ⟨j, hj, rfl⟩ := Option.map_eq_some_iff.1 hi
        obtain ⟨hi2, hj2⟩ := List.getElem?_eq_some_iff.1 hj
        rw [List.length_range] at hi2
        rw [List.getElem_range] at hj2
        subst hj2
        obtain ⟨_, cs', -, hcs, hat, -⟩ := hf i hi2
        obtain ⟨-, hcl, hce⟩ := World.cells?_some hcs
        refine ⟨cs', fun q u hu => ?_, hat.le (Nat.le_succ _)⟩
        obtain ⟨hq1, hq2⟩ := List.getElem?_eq_some_iff.1 hu
        have := hce q (by omega)
        rw [addr_add14, addr_add14] at this
        rw [hu] at this
        exact this
    · have := hcnt 0 elems rfl
      rw [List.drop_zero] at this
      rw [Rows.uptoBulk]
      omega
set_option maxRecDepth 100000 in
/-- A list of constructors that came in. -/
theorem open_ctors {base : Nat} {v : Value} {d : DataW H} {p : List MemPlace} (hok : Value.okWide Tryz.prog W .any base 63 v) (h : DataW.Trod enc Tryz.prog W 0 (fun _ => true) true 63 v d p) : ∃ n l, CtL W Any n v l ∧ Ct.wt l ≤ Rows.uptoBulk d := by
  obtain ⟨a0, len, cap, rfl⟩ := okWide_slice Tryz.underlying63 hok
  obtain ⟨fuel, hf⟩ := h
  obtain ⟨v', l, e1, h1, h2⟩ := open_crow hf
  obtain rfl : v' = _ := by simpa [Value.cells] using e1.symm
  exact ⟨fuel, l, h1.any, h2⟩
end Go.Proofs.YtigliglmejkakaaGreat

namespace Go.Proofs.YtigliglmejkakaaGreat
open Go.RowKit
set_option linter.unusedVariables false
set_option linter.unusedSimpArgs false

def zeroT : Tgt.Tt := .mk 0 0 [] []
/-- One form for both answers. -/
theorem TtAns2.one {ok : Bool} {y : Tgt.Tt} {w : World} {e : Ending} {w' : World} (h : TtAns2 ok y w e w') : ∃ p' q' p q N, e = .returned (.tuple #[.agg #[.int .i64 (bif ok then y else zeroT).k, .int .i64 (bif ok then y else zeroT).n, .slice p' (bif ok then y else zeroT).ls.length q', .slice p (bif ok then y else zeroT).ks.length q], .int .i64 (bif ok then 0 else 1)]) ∧ Tgt.TAt w' Tgt.Any N [.int .i64 (bif ok then y else zeroT).k, .int .i64 (bif ok then y else zeroT).n, .slice p' (bif ok then y else zeroT).ls.length q', .slice p (bif ok then y else zeroT).ks.length q] (bif ok then y else zeroT) := by
  rcases h with ⟨rfl, a', c', a, c, N, h1, h2⟩ | ⟨rfl, h1⟩
  · exact ⟨a', c', a, c, N, h1, h2.any⟩
  · exact ⟨none, 0, none, 0, 1, h1, tat_leaf 0 0 (⟨by omega, by omega⟩ : Tgt.R64 0) (⟨by omega, by omega⟩ : Tgt.R64 0)⟩

end Go.Proofs.YtigliglmejkakaaGreat

namespace Go.Proofs.YtigliglmejkakaaGreat
open Go.RowKit
set_option linter.unusedVariables false
set_option linter.unusedSimpArgs false

end Go.Proofs.YtigliglmejkakaaGreat

namespace Go.Proofs.YtigliglmejkakaaGreat
open Go.RowKit
set_option linter.unusedVariables false
set_option linter.unusedSimpArgs false

theorem leaf_cnt (k n : Int) : (Tgt.Tt.mk k n [] []).cnt = 1 := by rw [Tgt.Tt.cnt, Tgt.Tt.cntL]
mutual
theorem made_cnt (k : Int) : ∀ t : Tp, (Tp.made k t).cnt ≤ t.cnt
  | .mk kd n ks => by
    have h := madeL_cnt k ks
    rw [Tp.made, Tp.cnt]
    repeat' split
    all_goals (try (rw [leaf_cnt]; omega))
    all_goals (rw [Tgt.Tt.cnt]; omega)
theorem madeL_cnt (k : Int) : ∀ l : List Tp, Tgt.Tt.cntL (Tp.madeL k l) ≤ Tp.cntL l
  | [] => by rw [Tp.madeL, Tgt.Tt.cntL, Tp.cntL]; exact Nat.le_refl _
  | x :: r => by
    have h1 := made_cnt k x
    have h2 := madeL_cnt k r
    rw [Tp.madeL, Tgt.Tt.cntL, Tp.cntL]
    omega
end
theorem around_cnt (kind : Int) (y : Tgt.Tt) : ∀ l : List Int, (Tt.around kind l y).cnt = y.cnt + l.length
  | [] => rfl
  | x :: r => by
    have h := around_cnt kind y r
    show (Tgt.Tt.mk kind x [] [Tt.around kind r y]).cnt = _
    rw [Tgt.Tt.cnt, Tgt.Tt.cntL, Tgt.Tt.cntL, h, List.length_cons]
    omega
theorem schemeT_cnt (g : Int) (t : Tp) : (t.schemeT g).cnt ≤ t.cnt + g.toNat := by
  unfold Tp.schemeT
  rw [around_cnt, numsT_len]
  have := made_cnt (topK (Tp.found 6 t [])) t
  omega
theorem sumK_cnt (c : Ct) : (sumK c).cnt ≤ Tp.cntL c.args + 1 := by
  unfold sumK
  split
  · rw [leaf_cnt]; omega
  · rename_i x r h
    have := made_cnt 0 x
    rw [h, Tp.cntL]
    omega
theorem sumL_cnt : ∀ l : List Ct, Tgt.Tt.cntL (l.map sumK) ≤ Ct.wt l
  | [] => by rw [List.map_nil, Tgt.Tt.cntL]; exact Nat.zero_le _
  | c :: r => by
    have h1 := sumK_cnt c
    have h2 := sumL_cnt r
    rw [List.map_cons, Tgt.Tt.cntL, Ct.wt_cons]
    unfold Ct.wt1
    omega
theorem sumT_cnt (l : List Ct) : (sumT l).cnt ≤ Ct.wt l + 1 := by
  have := sumL_cnt l
  unfold sumT
  rw [Tgt.Tt.cnt]
  omega
theorem repT_cnt (s : Int) (l : List Ct) : (repT s l).cnt ≤ Ct.wt l + 2 := by
  have := sumT_cnt l
  unfold repT
  rw [Tgt.Tt.cnt, Tgt.Tt.cntL, Tgt.Tt.cntL]
  omega
theorem conT_cnt (s : Int) (c : Ct) : (conT s c).cnt ≤ Tp.cntL c.args + 3 := by
  unfold conT
  split
  · rw [leaf_cnt]; omega
  · rename_i x r h
    have := made_cnt 0 x
    rw [h, Tp.cntL, Tgt.Tt.cnt, Tgt.Tt.cntL, Tgt.Tt.cntL, Tgt.Tt.cntL, leaf_cnt]
    omega
end Go.Proofs.YtigliglmejkakaaGreat

namespace Go.Proofs.YtigliglmejkakaaGreat
open Go.RowKit
set_option linter.unusedVariables false
set_option linter.unusedSimpArgs false

theorem by_one (n : Int) (u : Tp) (k m : Int) : Tp.by 6 [n] [u] k m = if k = 6 ∧ m = n then some u else none := by
  unfold Tp.by
  by_cases hk : k = 6
  · by_cases hm : m = n
    · subst hm
      simp [Tp.idx, hk]
    · have hm' : ¬ n = m := fun h => hm h.symm
      simp [Tp.idx, hk, hm, hm']
  · simp [hk]
/-- Right, without a TMeta and a TGen. -/
theorem kind_of {k n : Int} {ks : List Tp} (hr : (Tp.mk k n ks).right = true) (hc : Tp.spares [7, 8] (.mk k n ks) = true) : ((k = 1 ∨ k = 2 ∨ k = 3) ∧ n = 0 ∧ ks = []) ∨ (k = 6 ∧ ks = []) ∨ ((k = 4 ∨ k = 5) ∧ n = 0 ∧ Tp.rightL ks = true ∧ Tp.sparesL [7, 8] ks = true) := by
  rw [Tp.right, Bool.and_eq_true] at hr
  rw [Tp.spares, Bool.and_eq_true] at hc
  have ho := hr.1
  unfold Tp.own at ho
  have h78 : k ≠ 7 ∧ k ≠ 8 := by simpa using hc.1
  split at ho
  · rename_i h
    simp at ho
    exact .inl ⟨h, ho.1, ho.2⟩
  · split at ho
    · rename_i h
      simp at ho
      exact .inr (.inr ⟨h, ho.1, hr.2, hc.2⟩)
    · split at ho
      · rename_i h
        simp at ho
        refine .inr (.inl ⟨?_, ho.2⟩)
        rcases h with h | h | h
        · exact h
        · exact absurd h h78.1
        · exact absurd h h78.2
      · cases ho
mutual
theorem put_made (n : Int) (u : Tp) (C : Int → Bool) (l : List Int) : ∀ (t : Tp) (nx : Int), t.right = true → Tp.spares [7, 8] t = true → (Tgt.Tt.put n (Tp.made 0 u) C l (Tp.made 0 t) [] nx).1 = Tp.made 0 (Tp.put 6 [n] [u] t)
  | .mk k m ks, nx, hr, hc => by
    rcases kind_of hr hc with ⟨h, rfl, rfl⟩ | ⟨rfl, rfl⟩ | ⟨h, rfl, h1, h2⟩
    · rcases h with rfl | rfl | rfl <;> simp [Tp.made, Tp.put, by_one, Tp.putL, Tgt.Tt.put, Tgt.Tt.putL, Tgt.Tt.binds, Tgt.Tt.k]
    · by_cases hm : m = n
      · subst hm
        simp [Tp.made, Tp.put, by_one, Tp.putL, Tgt.Tt.put, Tgt.Tt.putL, Tgt.lk]
      · simp [Tp.made, Tp.put, by_one, Tp.putL, Tgt.Tt.put, Tgt.Tt.putL, Tgt.lk, hm]
    · have hL := putL_made n u C l ks
      rcases h with rfl | rfl
      · have := hL nx h1 h2
        simp [Tp.made, Tp.put, by_one, Tgt.Tt.put, Tgt.Tt.binds, Tgt.Tt.k, this]
      · have := hL nx h1 h2
        simp [Tp.made, Tp.put, by_one, Tgt.Tt.put, Tgt.Tt.binds, Tgt.Tt.k, this]
theorem putL_made (n : Int) (u : Tp) (C : Int → Bool) (l : List Int) : ∀ (ts : List Tp) (nx : Int), Tp.rightL ts = true → Tp.sparesL [7, 8] ts = true → (Tgt.Tt.putL n (Tp.made 0 u) C l (Tp.madeL 0 ts) [] nx).1 = Tp.madeL 0 (Tp.putL 6 [n] [u] ts)
  | [], nx, _, _ => by simp [Tp.madeL, Tp.putL, Tgt.Tt.putL]
  | t :: r, nx, hr, hc => by
    rw [Tp.rightL, Bool.and_eq_true] at hr
    rw [Tp.sparesL, Bool.and_eq_true] at hc
    have h1 := put_made n u C l t nx hr.1 hc.1
    have h2 := putL_made n u C l r (Tgt.Tt.put n (Tp.made 0 u) C l (Tp.made 0 t) [] nx).2.2 hr.2 hc.2
    rw [Tp.madeL, Tp.putL, Tp.madeL, Tgt.Tt.putL]
    simp only [h1, h2]
end
mutual
/-- Where the number does not stand nothing is put in. -/
theorem put_absent (n : Int) (u : Tp) : ∀ t : Tp, t.right = true → Tp.spares [7, 8] t = true → (Tp.made 0 t).fv [] n = false → Tp.put 6 [n] [u] t = t
  | .mk k m ks, hr, hc, hf => by
    rcases kind_of hr hc with ⟨h, rfl, rfl⟩ | ⟨rfl, rfl⟩ | ⟨h, rfl, h1, h2⟩
    · rcases h with rfl | rfl | rfl <;> simp [Tp.put, by_one, Tp.putL]
    · have hm : ¬ m = n := by
        intro e
        subst e
        simp [Tp.made, Tgt.Tt.fv, Tgt.lk] at hf
      simp [Tp.put, by_one, Tp.putL, hm]
    · have hfl : Tgt.Tt.fvL (Tp.madeL 0 ks) [] n = false := by
        rcases h with rfl | rfl <;> simpa [Tp.made, Tgt.Tt.fv, Tgt.Tt.env, Tgt.Tt.binds, Tgt.Tt.k] using hf
      have := putL_absent n u ks h1 h2 hfl
      rcases h with rfl | rfl <;> simp [Tp.put, by_one, this]
theorem putL_absent (n : Int) (u : Tp) : ∀ ts : List Tp, Tp.rightL ts = true → Tp.sparesL [7, 8] ts = true → Tgt.Tt.fvL (Tp.madeL 0 ts) [] n = false → Tp.putL 6 [n] [u] ts = ts
  | [], _, _, _ => by simp [Tp.putL]
  | t :: r, hr, hc, hf => by
    rw [Tp.rightL, Bool.and_eq_true] at hr
    rw [Tp.sparesL, Bool.and_eq_true] at hc
    rw [Tp.madeL, Tgt.Tt.fvL, Bool.or_eq_false_iff] at hf
    rw [Tp.putL, put_absent n u t hr.1 hc.1 hf.1, putL_absent n u r hr.2 hc.2 hf.2]
end
end Go.Proofs.YtigliglmejkakaaGreat

namespace Go.Proofs.YtigliglmejkakaaGreat
open Go.RowKit
set_option linter.unusedVariables false
set_option linter.unusedSimpArgs false

theorem okT_iff (t : Tp) : t.okT = true ↔ t.right = true ∧ Tp.spares [7, 8] t = true ∧ ∀ x ∈ Tp.all 6 t, 0 ≤ x ∧ x ≤ 2147483647 := by
  unfold Tp.okT
  rw [Bool.and_eq_true, Bool.and_eq_true]
  refine and_congr_right fun _ => and_congr_right fun _ => ?_
  unfold okStamps
  rw [List.all_eq_true]
  constructor
  · intro h x hx
    simpa using h x (Tp.mem_fnd.2 hx)
  · intro h x hx
    simpa using h x (Tp.mem_fnd.1 hx)
mutual
theorem put_okT (n : Int) (u : Tp) (hu : u.right = true ∧ Tp.spares [7, 8] u = true ∧ ∀ x ∈ Tp.all 6 u, 0 ≤ x ∧ x ≤ 2147483647) : ∀ t : Tp, t.right = true → Tp.spares [7, 8] t = true → (∀ x ∈ Tp.all 6 t, 0 ≤ x ∧ x ≤ 2147483647) → (Tp.put 6 [n] [u] t).right = true ∧ Tp.spares [7, 8] (Tp.put 6 [n] [u] t) = true ∧ ∀ x ∈ Tp.all 6 (Tp.put 6 [n] [u] t), 0 ≤ x ∧ x ≤ 2147483647
  | .mk k m ks, hr, hc, hs => by
    rcases kind_of hr hc with ⟨h, rfl, rfl⟩ | ⟨rfl, rfl⟩ | ⟨h, rfl, h1, h2⟩
    · have he : Tp.put 6 [n] [u] (.mk k 0 []) = .mk k 0 [] := by rcases h with rfl | rfl | rfl <;> simp [Tp.put, by_one, Tp.putL]
      rw [he]
      exact ⟨hr, hc, hs⟩
    · by_cases hm : m = n
      · have he : Tp.put 6 [n] [u] (.mk 6 m []) = u := by simp [Tp.put, by_one, hm]
        rw [he]
        exact hu
      · have he : Tp.put 6 [n] [u] (.mk 6 m []) = .mk 6 m [] := by simp [Tp.put, by_one, Tp.putL, hm]
        rw [he]
        exact ⟨hr, hc, hs⟩
    · have hk6 : ¬ k = 6 := by rcases h with rfl | rfl <;> omega
      have he : Tp.put 6 [n] [u] (.mk k 0 ks) = .mk k 0 (Tp.putL 6 [n] [u] ks) := by simp [Tp.put, by_one, hk6]
      have hsl : ∀ x ∈ Tp.allL 6 ks, 0 ≤ x ∧ x ≤ 2147483647 := fun x hx => hs x (by rw [Tp.all]; exact List.mem_append_right _ hx)
      obtain ⟨g1, g2, g3, g4⟩ := putL_okT n u hu ks h1 h2 hsl
      rw [he]
      rw [Tp.right, Bool.and_eq_true] at hr
      rw [Tp.spares, Bool.and_eq_true] at hc
      refine ⟨?_, ?_, fun x hx => ?_⟩
      · rw [Tp.right, g4, g1, hr.1]; rfl
      · rw [Tp.spares, g2, hc.1]; rfl
      · rw [Tp.all, if_neg hk6, List.nil_append] at hx
        exact g3 x hx
theorem putL_okT (n : Int) (u : Tp) (hu : u.right = true ∧ Tp.spares [7, 8] u = true ∧ ∀ x ∈ Tp.all 6 u, 0 ≤ x ∧ x ≤ 2147483647) : ∀ ts : List Tp, Tp.rightL ts = true → Tp.sparesL [7, 8] ts = true → (∀ x ∈ Tp.allL 6 ts, 0 ≤ x ∧ x ≤ 2147483647) → Tp.rightL (Tp.putL 6 [n] [u] ts) = true ∧ Tp.sparesL [7, 8] (Tp.putL 6 [n] [u] ts) = true ∧ (∀ x ∈ Tp.allL 6 (Tp.putL 6 [n] [u] ts), 0 ≤ x ∧ x ≤ 2147483647) ∧ (Tp.putL 6 [n] [u] ts).length = ts.length
  | [], hr, hc, hs => by rw [Tp.putL]; exact ⟨hr, hc, hs, rfl⟩
  | t :: r, hr, hc, hs => by
    rw [Tp.rightL, Bool.and_eq_true] at hr
    rw [Tp.sparesL, Bool.and_eq_true] at hc
    rw [Tp.allL] at hs
    obtain ⟨a1, a2, a3⟩ := put_okT n u hu t hr.1 hc.1 (fun x hx => hs x (List.mem_append_left _ hx))
    obtain ⟨b1, b2, b3, b4⟩ := putL_okT n u hu r hr.2 hc.2 (fun x hx => hs x (List.mem_append_right _ hx))
    rw [Tp.putL]
    refine ⟨?_, ?_, fun x hx => ?_, by rw [List.length_cons, List.length_cons, b4]⟩
    · rw [Tp.rightL, a1, b1]; rfl
    · rw [Tp.sparesL, a2, b2]; rfl
    · rw [Tp.allL] at hx
      rcases List.mem_append.1 hx with hx | hx
      · exact a3 x hx
      · exact b3 x hx
end
theorem okT_put {n : Int} {t u : Tp} (ht : t.okT = true) (hu : u.okT = true) : (Tp.put 6 [n] [u] t).okT = true := by
  have h := (okT_iff t).1 ht
  exact (okT_iff _).2 (put_okT n u ((okT_iff u).1 hu) t h.1 h.2.1 h.2.2)
end Go.Proofs.YtigliglmejkakaaGreat
