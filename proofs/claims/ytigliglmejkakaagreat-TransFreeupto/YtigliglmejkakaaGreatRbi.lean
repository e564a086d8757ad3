/- function. TransTypes: the walk, over what the program's Type and Scheme answer. TransData: the walk, over what the program's Sum, Rep and Con answer. How great target types are that were made. The numbers of a type; what stands free under fewer binders. -/
import Derived.Test.YtigliglmejkakaaGreatRbh
import Derived.Test.YtigliglmejkakaaGreatRba
import Derived.Test.YtigliglmejkakaaGreatRav
namespace Go.Proofs.YtigliglmejkakaaGreat
open Go.RowKit Go.Shelf
set_option linter.unusedVariables false
set_option linter.unusedSimpArgs false

def funA (l : List Int) (a b : An) : An := if bindE [] l = 0 then (if a.2 = 0 then (if b.2 = 0 then (Tt.around 10 l (.mk 4 0 [] [a.1, b.1]), 0) else (zeroA, b.2)) else (zeroA, a.2)) else (zeroA, bindE [] l)

set_option maxRecDepth 100000 in
set_option maxHeartbeats 2000000 in
theorem function_e0 (w : World) (pb po : Nat) (la : Option Addr) (lc : Nat) (l : List Int) (hc : w.cell? ⟨pb, po, none⟩ = some (.slice la l.length lc)) (hl : Ls w Any (.slice la l.length lc) l) (h64 : ∀ x ∈ l, Tgt.R64 x) (hln : l.length ≤ 1048576) (a b : An)
    (HR : ∀ W, Below w.heap.size w W → Calls Tryz.prog 43 #[.pointer (some ⟨pb, po + 1, none⟩)] W (AnsOf W a)) (HH : ∀ W, Below w.heap.size w W → Calls Tryz.prog 42 #[.pointer (some ⟨pb, po + 6, none⟩)] W (AnsOf W b)) (hq : (bindE [] l != 0) = true) :
    Calls Tryz.prog 135 #[.pointer (some ⟨pb, po, none⟩)] w (AnsOf w (zeroA, bindE [] l)) := by
  have hpb := World.block_lt_of_cell? _ _ hc
  have HB1 : Hid (Below w.heap.size w (w.alloc (.cells #[.int .i64 0, .int .i64 0, .slice none 0 0, .slice none 0 0] 28))) := bl_alloc (Below.refl _ _) _
  have Y1 : Hid (Arr (w.alloc (.cells #[.int .i64 0, .int .i64 0, .slice none 0 0, .slice none 0 0] 28)) w.heap.size 28 [.int .i64 0, .int .i64 0, .slice none 0 0, .slice none 0 0]) := ⟨heap_alloc_at _ _⟩
  have c1 := (HB1.out.cell (p := ⟨pb, po, none⟩) hpb).trans hc
  have HMB := hid (mayBind_all (w.alloc (.cells #[.int .i64 0, .int .i64 0, .slice none 0 0, .slice none 0 0] 28)) _ l (hl.below HB1.out) h64 hln)
  have HSS : Hid (∀ (W : World) i u, Below w.heap.size w W → Below w.heap.size w (W.setCell ⟨w.heap.size, i, none⟩ u)) := fun W i u h => bl_set _ _ h (Nat.le_refl _)
  have HL := hid hl
  have H64 := hid h64
  have HRR := hid HR
  have HHH := hid HH
  have HC := hid hc
  clear hl HR HH h64 hc
  go_enter Tryz.func135, Tryz.ntmps135
  go_wp2_with (go_at_call 81; have _ := HMB; refine HMB.out.mono ?_; rintro e w2 ⟨rfl, bl2⟩; have HB2 := hid (bl_tr HB1.out bl2); have Y2 := hid (Y1.out.stays bl2); have y2 := Y2.out.cell; have hw2 := Y2.out.lt; have z2 := Y2.out.frozen; have c2 := (HB2.out.cell (p := ⟨pb, po, none⟩) hpb).trans HC.out; clear bl2 c1 HMB)
  refine bodyPost_ret (v := .tuple #[.agg #[.int .i64 0, .int .i64 0, .slice none 0 0, .slice none 0 0], .int .i64 (bindE [] l)]) (by rw [results_cell2t (fn := Tryz.f135) (p := 2) (a := 3) (ty := 28) (by kernel_rfl)]; simp [go_sem, y2, z2]) rfl ?_
  exact AnsOf.err _ (HSS.out _ _ _ (HSS.out _ _ _ (HSS.out _ _ _ (HSS.out _ _ _ HB2.out))))

set_option maxRecDepth 100000 in
set_option maxHeartbeats 2000000 in
theorem function_e1 (w : World) (pb po : Nat) (la : Option Addr) (lc : Nat) (l : List Int) (hc : w.cell? ⟨pb, po, none⟩ = some (.slice la l.length lc)) (hl : Ls w Any (.slice la l.length lc) l) (h64 : ∀ x ∈ l, Tgt.R64 x) (hln : l.length ≤ 1048576) (a b : An)
    (HR : ∀ W, Below w.heap.size w W → Calls Tryz.prog 43 #[.pointer (some ⟨pb, po + 1, none⟩)] W (AnsOf W a)) (HH : ∀ W, Below w.heap.size w W → Calls Tryz.prog 42 #[.pointer (some ⟨pb, po + 6, none⟩)] W (AnsOf W b)) (hq : (bindE [] l != 0) = false) (ha : (a.2 != 0) = true) :
    Calls Tryz.prog 135 #[.pointer (some ⟨pb, po, none⟩)] w (AnsOf w (zeroA, a.2)) := by
  have hpb := World.block_lt_of_cell? _ _ hc
  have HB1 : Hid (Below w.heap.size w (w.alloc (.cells #[.int .i64 0, .int .i64 0, .slice none 0 0, .slice none 0 0] 28))) := bl_alloc (Below.refl _ _) _
  have Y1 : Hid (Arr (w.alloc (.cells #[.int .i64 0, .int .i64 0, .slice none 0 0, .slice none 0 0] 28)) w.heap.size 28 [.int .i64 0, .int .i64 0, .slice none 0 0, .slice none 0 0]) := ⟨heap_alloc_at _ _⟩
  have c1 := (HB1.out.cell (p := ⟨pb, po, none⟩) hpb).trans hc
  have HMB := hid (mayBind_all (w.alloc (.cells #[.int .i64 0, .int .i64 0, .slice none 0 0, .slice none 0 0] 28)) _ l (hl.below HB1.out) h64 hln)
  have HSS : Hid (∀ (W : World) i u, Below w.heap.size w W → Below w.heap.size w (W.setCell ⟨w.heap.size, i, none⟩ u)) := fun W i u h => bl_set _ _ h (Nat.le_refl _)
  have HL := hid hl
  have H64 := hid h64
  have HRR := hid HR
  have HHH := hid HH
  have HC := hid hc
  clear hl HR HH h64 hc
  go_enter Tryz.func135, Tryz.ntmps135
  go_wp2_with (first | (go_at_call 81; have _ := HMB; refine HMB.out.mono ?_; rintro e w2 ⟨rfl, bl2⟩; have HB2 := hid (bl_tr HB1.out bl2); have Y2 := hid (Y1.out.stays bl2); have y2 := Y2.out.cell; have hw2 := Y2.out.lt; have z2 := Y2.out.frozen; have c2 := (HB2.out.cell (p := ⟨pb, po, none⟩) hpb).trans HC.out; clear bl2 c1 HMB) | (go_at_call 43; have _ := HRR; refine (HRR.out w2 HB2.out).mono ?_; rintro e w3 ⟨⟨p', q', p, q, N, rfl, hT3⟩, bl3⟩; have HT3 := hid hT3; have bl3' := bl_alloc bl3 (.cells #[.int .i64 a.1.k, .int .i64 a.1.n, .slice p' a.1.ls.length q', .slice p a.1.ks.length q] 28); have HB3 := hid (bl_tr HB2.out bl3'); have Y3 := hid (Y2.out.stays bl3'); have X3 : Hid (Arr (w3.alloc (.cells #[.int .i64 a.1.k, .int .i64 a.1.n, .slice p' a.1.ls.length q', .slice p a.1.ks.length q] 28)) w3.heap.size 28 [.int .i64 a.1.k, .int .i64 a.1.n, .slice p' a.1.ls.length q', .slice p a.1.ks.length q]) := ⟨heap_alloc_at _ _⟩; have hw3 := (Y2.out.stays bl3).lt; have y3' := (Y2.out.stays bl3).cell; have z3' := (Y2.out.stays bl3).frozen; have hne : ¬ w.heap.size = w3.heap.size := (by omega); have H23 := hid bl3; clear bl3 bl3' hT3 c2 y2 z2 HRR))
  refine bodyPost_ret (v := .tuple #[.agg #[.int .i64 0, .int .i64 0, .slice none 0 0, .slice none 0 0], .int .i64 a.2]) (by rw [results_cell2t (fn := Tryz.f135) (p := 2) (a := 3) (ty := 28) (by kernel_rfl)]; simp [go_sem, y3', z3', hw3, hne]) rfl ?_
  exact AnsOf.err _ (bl_alloc (HSS.out _ _ _ (HSS.out _ _ _ (HSS.out _ _ _ (HSS.out _ _ _ (bl_tr HB2.out H23.out))))) _)

set_option maxRecDepth 100000 in
set_option maxHeartbeats 2000000 in
theorem function_e2 (w : World) (pb po : Nat) (la : Option Addr) (lc : Nat) (l : List Int) (hc : w.cell? ⟨pb, po, none⟩ = some (.slice la l.length lc)) (hl : Ls w Any (.slice la l.length lc) l) (h64 : ∀ x ∈ l, Tgt.R64 x) (hln : l.length ≤ 1048576) (a b : An)
    (HR : ∀ W, Below w.heap.size w W → Calls Tryz.prog 43 #[.pointer (some ⟨pb, po + 1, none⟩)] W (AnsOf W a)) (HH : ∀ W, Below w.heap.size w W → Calls Tryz.prog 42 #[.pointer (some ⟨pb, po + 6, none⟩)] W (AnsOf W b)) (hq : (bindE [] l != 0) = false) (ha : (a.2 != 0) = false) (hb : (b.2 != 0) = true) :
    Calls Tryz.prog 135 #[.pointer (some ⟨pb, po, none⟩)] w (AnsOf w (zeroA, b.2)) := by
  have hpb := World.block_lt_of_cell? _ _ hc
  have HB1 : Hid (Below w.heap.size w (w.alloc (.cells #[.int .i64 0, .int .i64 0, .slice none 0 0, .slice none 0 0] 28))) := bl_alloc (Below.refl _ _) _
  have Y1 : Hid (Arr (w.alloc (.cells #[.int .i64 0, .int .i64 0, .slice none 0 0, .slice none 0 0] 28)) w.heap.size 28 [.int .i64 0, .int .i64 0, .slice none 0 0, .slice none 0 0]) := ⟨heap_alloc_at _ _⟩
  have c1 := (HB1.out.cell (p := ⟨pb, po, none⟩) hpb).trans hc
  have HMB := hid (mayBind_all (w.alloc (.cells #[.int .i64 0, .int .i64 0, .slice none 0 0, .slice none 0 0] 28)) _ l (hl.below HB1.out) h64 hln)
  have HSS : Hid (∀ (W : World) i u, Below w.heap.size w W → Below w.heap.size w (W.setCell ⟨w.heap.size, i, none⟩ u)) := fun W i u h => bl_set _ _ h (Nat.le_refl _)
  have HL := hid hl
  have H64 := hid h64
  have HRR := hid HR
  have HHH := hid HH
  have HC := hid hc
  clear hl HR HH h64 hc
  go_enter Tryz.func135, Tryz.ntmps135
  go_wp2_with (first | (go_at_call 81; have _ := HMB; refine HMB.out.mono ?_; rintro e w2 ⟨rfl, bl2⟩; have HB2 := hid (bl_tr HB1.out bl2); have Y2 := hid (Y1.out.stays bl2); have y2 := Y2.out.cell; have hw2 := Y2.out.lt; have z2 := Y2.out.frozen; have c2 := (HB2.out.cell (p := ⟨pb, po, none⟩) hpb).trans HC.out; clear bl2 c1 HMB) | (go_at_call 43; have _ := HRR; refine (HRR.out w2 HB2.out).mono ?_; rintro e w3 ⟨⟨p', q', p, q, N, rfl, hT3⟩, bl3⟩; have HT3 := hid hT3; have bl3' := bl_alloc bl3 (.cells #[.int .i64 a.1.k, .int .i64 a.1.n, .slice p' a.1.ls.length q', .slice p a.1.ks.length q] 28); have HB3 := hid (bl_tr HB2.out bl3'); have Y3 := hid (Y2.out.stays bl3'); have X3 : Hid (Arr (w3.alloc (.cells #[.int .i64 a.1.k, .int .i64 a.1.n, .slice p' a.1.ls.length q', .slice p a.1.ks.length q] 28)) w3.heap.size 28 [.int .i64 a.1.k, .int .i64 a.1.n, .slice p' a.1.ls.length q', .slice p a.1.ks.length q]) := ⟨heap_alloc_at _ _⟩; have hw3 := (Y2.out.stays bl3).lt; have y3' := (Y2.out.stays bl3).cell; have z3' := (Y2.out.stays bl3).frozen; have hne : ¬ w.heap.size = w3.heap.size := (by omega); have H23 := hid bl3; clear bl3 bl3' hT3 c2 y2 z2 HRR) | (go_at_call 42; have _ := HHH; refine (HHH.out _ HB3.out).mono ?_; rintro e w5 ⟨⟨r', s', r, s, M, rfl, hT5⟩, bl5⟩; have HT5 := hid hT5; have bl5' := bl_alloc bl5 (.cells #[.int .i64 b.1.k, .int .i64 b.1.n, .slice r' b.1.ls.length s', .slice r b.1.ks.length s] 28); have HB5 := hid (bl_tr HB3.out bl5'); have Y5 := hid (Y3.out.stays bl5'); have X5 := hid (X3.out.stays bl5'); have V5 : Hid (Arr (w5.alloc (.cells #[.int .i64 b.1.k, .int .i64 b.1.n, .slice r' b.1.ls.length s', .slice r b.1.ks.length s] 28)) w5.heap.size 28 [.int .i64 b.1.k, .int .i64 b.1.n, .slice r' b.1.ls.length s', .slice r b.1.ks.length s]) := ⟨heap_alloc_at _ _⟩; have hw5 := (Y3.out.stays bl5).lt; have hx5 := (X3.out.stays bl5).lt; have y5' := (Y3.out.stays bl5).cell; have z5' := (Y3.out.stays bl5).frozen; have hne5 : ¬ w.heap.size = w5.heap.size := (by omega); have hnx5 : ¬ w3.heap.size = w5.heap.size := (by omega); have H35 := hid bl5; clear bl5 bl5' hT5 y3' z3' HHH))
  refine bodyPost_ret (v := .tuple #[.agg #[.int .i64 0, .int .i64 0, .slice none 0 0, .slice none 0 0], .int .i64 b.2]) (by rw [results_cell2t (fn := Tryz.f135) (p := 2) (a := 3) (ty := 28) (by kernel_rfl)]; simp [go_sem, y5', z5', hw5, hne5]) rfl ?_
  exact AnsOf.err _ (bl_alloc (HSS.out _ _ _ (HSS.out _ _ _ (HSS.out _ _ _ (HSS.out _ _ _ (bl_tr HB3.out H35.out))))) _)

set_option maxRecDepth 100000 in
set_option maxHeartbeats 2000000 in
theorem function_ok (w : World) (pb po : Nat) (la : Option Addr) (lc : Nat) (l : List Int) (hc : w.cell? ⟨pb, po, none⟩ = some (.slice la l.length lc)) (hl : Ls w Any (.slice la l.length lc) l) (h64 : ∀ x ∈ l, Tgt.R64 x) (hln : l.length ≤ 1048576) (a b : An)
    (HR : ∀ W, Below w.heap.size w W → Calls Tryz.prog 43 #[.pointer (some ⟨pb, po + 1, none⟩)] W (AnsOf W a)) (HH : ∀ W, Below w.heap.size w W → Calls Tryz.prog 42 #[.pointer (some ⟨pb, po + 6, none⟩)] W (AnsOf W b)) (hq : (bindE [] l != 0) = false) (ha : (a.2 != 0) = false) (hb : (b.2 != 0) = false) :
    Calls Tryz.prog 135 #[.pointer (some ⟨pb, po, none⟩)] w (AnsOf w (Tt.around 10 l (.mk 4 0 [] [a.1, b.1]), 0)) := by
  obtain ⟨R, hR⟩ : ∃ R, Tt.around 10 l (.mk 4 0 [] [a.1, b.1]) = R := ⟨_, rfl⟩
  rw [hR]
  have HRe := hid hR
  clear hR
  have hpb := World.block_lt_of_cell? _ _ hc
  have HB1 : Hid (Below w.heap.size w (w.alloc (.cells #[.int .i64 0, .int .i64 0, .slice none 0 0, .slice none 0 0] 28))) := bl_alloc (Below.refl _ _) _
  have Y1 : Hid (Arr (w.alloc (.cells #[.int .i64 0, .int .i64 0, .slice none 0 0, .slice none 0 0] 28)) w.heap.size 28 [.int .i64 0, .int .i64 0, .slice none 0 0, .slice none 0 0]) := ⟨heap_alloc_at _ _⟩
  have c1 := (HB1.out.cell (p := ⟨pb, po, none⟩) hpb).trans hc
  have HMB := hid (mayBind_all (w.alloc (.cells #[.int .i64 0, .int .i64 0, .slice none 0 0, .slice none 0 0] 28)) _ l (hl.below HB1.out) h64 hln)
  have HSS : Hid (∀ (W : World) i u, Below w.heap.size w W → Below w.heap.size w (W.setCell ⟨w.heap.size, i, none⟩ u)) := fun W i u h => bl_set _ _ h (Nat.le_refl _)
  have HL := hid hl
  have H64 := hid h64
  have HRR := hid HR
  have HHH := hid HH
  have HC := hid hc
  clear hl HR HH h64 hc
  go_enter Tryz.func135, Tryz.ntmps135
  go_wp2_with (first | (go_at_call 81; have _ := HMB; refine HMB.out.mono ?_; rintro e w2 ⟨rfl, bl2⟩; have HB2 := hid (bl_tr HB1.out bl2); have Y2 := hid (Y1.out.stays bl2); have y2 := Y2.out.cell; have hw2 := Y2.out.lt; have z2 := Y2.out.frozen; have c2 := (HB2.out.cell (p := ⟨pb, po, none⟩) hpb).trans HC.out; clear bl2 c1 HMB) | (go_at_call 43; have _ := HRR; refine (HRR.out w2 HB2.out).mono ?_; rintro e w3 ⟨⟨p', q', p, q, N, rfl, hT3⟩, bl3⟩; have HT3 := hid hT3; have bl3' := bl_alloc bl3 (.cells #[.int .i64 a.1.k, .int .i64 a.1.n, .slice p' a.1.ls.length q', .slice p a.1.ks.length q] 28); have HB3 := hid (bl_tr HB2.out bl3'); have Y3 := hid (Y2.out.stays bl3'); have X3 : Hid (Arr (w3.alloc (.cells #[.int .i64 a.1.k, .int .i64 a.1.n, .slice p' a.1.ls.length q', .slice p a.1.ks.length q] 28)) w3.heap.size 28 [.int .i64 a.1.k, .int .i64 a.1.n, .slice p' a.1.ls.length q', .slice p a.1.ks.length q]) := ⟨heap_alloc_at _ _⟩; have hw3 := (Y2.out.stays bl3).lt; have y3' := (Y2.out.stays bl3).cell; have z3' := (Y2.out.stays bl3).frozen; have hne : ¬ w.heap.size = w3.heap.size := (by omega); have H23 := hid bl3; clear bl3 bl3' hT3 c2 y2 z2 HRR) | (go_at_call 42; have _ := HHH; refine (HHH.out _ HB3.out).mono ?_; rintro e w5 ⟨⟨r', s', r, s, M, rfl, hT5⟩, bl5⟩; have HT5 := hid hT5; have bl5' := bl_alloc bl5 (.cells #[.int .i64 b.1.k, .int .i64 b.1.n, .slice r' b.1.ls.length s', .slice r b.1.ks.length s] 28); have HB5 := hid (bl_tr HB3.out bl5'); have Y5 := hid (Y3.out.stays bl5'); have X5 := hid (X3.out.stays bl5'); have V5 : Hid (Arr (w5.alloc (.cells #[.int .i64 b.1.k, .int .i64 b.1.n, .slice r' b.1.ls.length s', .slice r b.1.ks.length s] 28)) w5.heap.size 28 [.int .i64 b.1.k, .int .i64 b.1.n, .slice r' b.1.ls.length s', .slice r b.1.ks.length s]) := ⟨heap_alloc_at _ _⟩; have hw5 := (Y3.out.stays bl5).lt; have hx5 := (X3.out.stays bl5).lt; have y5' := (Y3.out.stays bl5).cell; have z5' := (Y3.out.stays bl5).frozen; have hne5 : ¬ w.heap.size = w5.heap.size := (by omega); have hnx5 : ¬ w3.heap.size = w5.heap.size := (by omega); have H35 := hid bl5; clear bl5 bl5' hT5 y3' z3' HHH))
  have HDB : Hid (Below (w5.alloc (.cells #[.int .i64 b.1.k, .int .i64 b.1.n, .slice r' b.1.ls.length s', .slice r b.1.ks.length s] 28)).heap.size (w5.alloc (.cells #[.int .i64 b.1.k, .int .i64 b.1.n, .slice r' b.1.ls.length s', .slice r b.1.ks.length s] 28)) (w5.alloc (.cells #[.int .i64 b.1.k, .int .i64 b.1.n, .slice r' b.1.ls.length s', .slice r b.1.ks.length s] 28)).drew) := (Below.refl _ _).drew
  have hs0 : Hid ((Arr (w5.alloc (.cells #[.int .i64 b.1.k, .int .i64 b.1.n, .slice r' b.1.ls.length s', .slice r b.1.ks.length s] 28)).drew w3.heap.size 28 [.int .i64 a.1.k, .int .i64 a.1.n, .slice p' a.1.ls.length q', .slice p a.1.ks.length q] ∧ Arr (w5.alloc (.cells #[.int .i64 b.1.k, .int .i64 b.1.n, .slice r' b.1.ls.length s', .slice r b.1.ks.length s] 28)).drew w5.heap.size 28 [.int .i64 b.1.k, .int .i64 b.1.n, .slice r' b.1.ls.length s', .slice r b.1.ks.length s]) ∧ Below w.heap.size w (w5.alloc (.cells #[.int .i64 b.1.k, .int .i64 b.1.n, .slice r' b.1.ls.length s', .slice r b.1.ks.length s] 28)).drew) := ⟨⟨X5.out.stays HDB.out, V5.out.stays HDB.out⟩, bl_tr HB5.out HDB.out⟩
  have HYd := hid (Y5.out.stays HDB.out)
  have HTA : Hid (Tgt.TAt (w5.alloc (.cells #[.int .i64 b.1.k, .int .i64 b.1.n, .slice r' b.1.ls.length s', .slice r b.1.ks.length s] 28)).drew (fun b => w2.heap.size ≤ b ∧ b ≠ w3.heap.size) (max N M) [.int .i64 a.1.k, .int .i64 a.1.n, .slice p' a.1.ls.length q', .slice p a.1.ks.length q] a.1) := (((HT3.out.old.move (K' := fun b => w2.heap.size ≤ b ∧ b ≠ w3.heap.size) (Tgt.Keeps.refl _ _) (fun b hb => ⟨hb.1, by have := hb.2; omega⟩)).below (bl_alloc (Below.refl _ _) (.cells #[.int .i64 a.1.k, .int .i64 a.1.n, .slice p' a.1.ls.length q', .slice p a.1.ks.length q] 28))).below (bl_alloc H35.out (.cells #[.int .i64 b.1.k, .int .i64 b.1.n, .slice r' b.1.ls.length s', .slice r b.1.ks.length s] 28))).below HDB.out |>.le (Nat.le_max_left _ _)
  have HTB : Hid (Tgt.TAt (w5.alloc (.cells #[.int .i64 b.1.k, .int .i64 b.1.n, .slice r' b.1.ls.length s', .slice r b.1.ks.length s] 28)).drew (fun b => w2.heap.size ≤ b ∧ b ≠ w3.heap.size) (max N M) [.int .i64 b.1.k, .int .i64 b.1.n, .slice r' b.1.ls.length s', .slice r b.1.ks.length s] b.1) := ((HT5.out.move (Tgt.Keeps.refl _ _) (fun b hb => by have hb : (w3.alloc (.cells #[.int .i64 a.1.k, .int .i64 a.1.n, .slice p' a.1.ls.length q', .slice p a.1.ks.length q] 28)).heap.size ≤ b := hb; rw [size_alloc] at hb; have := H23.out.size; exact ⟨(by omega), (by omega)⟩)).below (bl_alloc (Below.refl _ _) (.cells #[.int .i64 b.1.k, .int .i64 b.1.n, .slice r' b.1.ls.length s', .slice r b.1.ks.length s] 28))).below HDB.out |>.le (Nat.le_max_right _ _)
  clear X5 V5 HB5 Y5 HT3 HT5 HDB y5' z5' Y3 X3 HB3
  refine wp_region_held_drew (S := fun wz => (Arr wz w3.heap.size 28 [.int .i64 a.1.k, .int .i64 a.1.n, .slice p' a.1.ls.length q', .slice p a.1.ks.length q] ∧ Arr wz w5.heap.size 28 [.int .i64 b.1.k, .int .i64 b.1.n, .slice r' b.1.ls.length s', .slice r b.1.ks.length s]) ∧ Below w.heap.size w wz) (by kernel_rfl) (hs0.out) (fun hS => ?_)
  generalize (w5.alloc (.cells #[.int .i64 b.1.k, .int .i64 b.1.n, .slice r' b.1.ls.length s', .slice r b.1.ks.length s] 28)).drew = wd at hS HTA HTB HYd ⊢
  refine wpAnyH_take (i := 0) (v := ?_) rfl (by kernel_rfl) (by kernel_rfl) (by kernel_rfl) (fun _ _ _ h => h) (Or.inl ⟨by rfl, ?_⟩) hS ?_
  rotate_left
  · intro wz hz; go_simp; try with_reducible rfl
  try simp only [Act.put, List.setIfInBounds_toArray, List.set_cons_zero, List.set_cons_succ, List.getElem_toArray, List.getElem_cons_succ, List.getElem_cons_zero]
  refine wpAnyH_take (i := 1) (v := ?_) rfl (by kernel_rfl) (by kernel_rfl) (by kernel_rfl) (fun _ _ _ h => h) (Or.inl ⟨by rfl, ?_⟩) hS ?_
  rotate_left
  · intro wz hz; go_simp; try with_reducible rfl
  try simp only [Act.put, List.setIfInBounds_toArray, List.set_cons_zero, List.set_cons_succ, List.getElem_toArray, List.getElem_cons_succ, List.getElem_cons_zero]
  refine wpAnyH_take (i := 2) (v := ?_) rfl (by kernel_rfl) (by kernel_rfl) (by kernel_rfl) (fun _ _ _ h => h) (Or.inl ⟨by rfl, ?_⟩) hS ?_
  rotate_left
  · intro wz hz; go_simp; try with_reducible rfl
  try simp only [Act.put, List.setIfInBounds_toArray, List.set_cons_zero, List.set_cons_succ, List.getElem_toArray, List.getElem_cons_succ, List.getElem_cons_zero]
  refine wpAnyH_take (i := 3) (v := ?_) rfl (by kernel_rfl) (by kernel_rfl) (by kernel_rfl) (fun _ _ _ h => h) (Or.inl ⟨by rfl, ?_⟩) hS ?_
  rotate_left
  · intro wz hz; have yy0 := hz.1.1.cell; have yy2 := hz.1.2.cell; have yy1 := (hz.2.cell (p := ⟨pb, po, none⟩) hpb).trans HC.out; go_simp; try with_reducible rfl
  try simp only [Act.put, List.setIfInBounds_toArray, List.set_cons_zero, List.set_cons_succ, List.getElem_toArray, List.getElem_cons_succ, List.getElem_cons_zero]
  refine wpAnyH_take (i := 4) (v := ?_) rfl (by kernel_rfl) (by kernel_rfl) (by kernel_rfl) (fun _ _ _ h => h) (Or.inl ⟨by rfl, ?_⟩) hS ?_
  rotate_left
  · intro wz hz; have yy0 := hz.1.1.cell; have yy2 := hz.1.2.cell; have yy1 := (hz.2.cell (p := ⟨pb, po, none⟩) hpb).trans HC.out; go_simp; try with_reducible rfl
  try simp only [Act.put, List.setIfInBounds_toArray, List.set_cons_zero, List.set_cons_succ, List.getElem_toArray, List.getElem_cons_succ, List.getElem_cons_zero]
  refine wpAnyH_take (i := 5) (v := ?_) rfl (by kernel_rfl) (by kernel_rfl) (by kernel_rfl) (fun _ _ _ h => h) (Or.inl ⟨by rfl, ?_⟩) hS ?_
  rotate_left
  · intro wz hz; have yy0 := hz.1.1.cell; have yy2 := hz.1.2.cell; have yy1 := (hz.2.cell (p := ⟨pb, po, none⟩) hpb).trans HC.out; go_simp; try with_reducible rfl
  try simp only [Act.put, List.setIfInBounds_toArray, List.set_cons_zero, List.set_cons_succ, List.getElem_toArray, List.getElem_cons_succ, List.getElem_cons_zero]
  refine wpAnyH_ready (rs := [6]) (by kernel_rfl) (by simp) (AllReadyH.cons rfl (fun K hK => ?a1_6) AllReadyH.nil)
  case' a1_6 =>
    go_simp
    have hbo := both_any wd (fun b => w2.heap.size ≤ b ∧ b ≠ w3.heap.size) (max N M) 4 a.1 b.1 p' p r' r q' q s' s ⟨by omega, by omega⟩ HTA.out HTB.out (fun b hb => by have := hS.1.1.lt; have := H23.out.size; have hb : wd.heap.size ≤ b := hb; exact ⟨(by omega), (by omega)⟩)
    refine Calls.mono hbo ?_
    clear hbo
    rintro e w6 ⟨ba, bc, rfl, hT6, b6⟩
    have HT6 := hid hT6
    have H6 := hid b6
    have Y6 := hid (HYd.out.stays b6)
    refine hK.out _ _ (⟨⟨hS.1.1.stays b6, hS.1.2.stays b6⟩, bl_tr hS.2 b6⟩) (fun hSn => ?_)
    clear hK K hS
    have hS := hSn
    clear hSn
    try simp only [Act.put, List.setIfInBounds_toArray, List.set_cons_zero, List.set_cons_succ, List.getElem_toArray, List.getElem_cons_succ, List.getElem_cons_zero]
    clear b6 hT6 HTA HTB HYd
    refine wpAnyH_ready (rs := [7]) (by kernel_rfl) (by simp) (AllReadyH.cons rfl (fun K hK => ?a2_7) AllReadyH.nil)
    case' a2_7 =>
      go_simp
      have hbo := bound_all w6 (fun b => w2.heap.size ≤ b ∧ b ≠ w3.heap.size) 10 ⟨by omega, by omega⟩ la lc l (HL.out.below hS.2) H64.out hln _ (.mk 4 0 [] [a.1, b.1]) none ba 0 bc HT6.out
      rw [HRe.out] at hbo
      refine Calls.mono hbo ?_
      clear hbo
      rintro e w7 ⟨⟨pp', qq', pp, qq, NN, rfl, hT7⟩, b7⟩
      have HT7 := hid hT7
      have Y7 := hid (Y6.out.stays b7)
      have y7 := Y7.out.cell
      have z7 := Y7.out.frozen
      have hwd := Y6.out.lt
      refine hK.out _ _ (⟨⟨hS.1.1.stays b7, hS.1.2.stays b7⟩, bl_tr hS.2 b7⟩) (fun hSn => ?_)
      clear hK K hS
      have hS := hSn
      clear hSn
      try simp only [Act.put, List.setIfInBounds_toArray, List.set_cons_zero, List.set_cons_succ, List.getElem_toArray, List.getElem_cons_succ, List.getElem_cons_zero]
      clear b7 hT7
      refine wpAnyH_ready (rs := [8]) (by kernel_rfl) (by simp) (AllReadyH.cons rfl (fun K hK => ?a3_8) AllReadyH.nil)
      case' a3_8 =>
        go_simp
        refine hK.out _ _ (⟨⟨(((hS.1.1.other (p := ⟨w.heap.size, 0, none⟩) (by show w3.heap.size ≠ w.heap.size; omega) _).other (p := ⟨w.heap.size, 1, none⟩) (by show w3.heap.size ≠ w.heap.size; omega) _).other (p := ⟨w.heap.size, 2, none⟩) (by show w3.heap.size ≠ w.heap.size; omega) _).other (p := ⟨w.heap.size, 3, none⟩) (by show w3.heap.size ≠ w.heap.size; omega) _, (((hS.1.2.other (p := ⟨w.heap.size, 0, none⟩) (by show w5.heap.size ≠ w.heap.size; omega) _).other (p := ⟨w.heap.size, 1, none⟩) (by show w5.heap.size ≠ w.heap.size; omega) _).other (p := ⟨w.heap.size, 2, none⟩) (by show w5.heap.size ≠ w.heap.size; omega) _).other (p := ⟨w.heap.size, 3, none⟩) (by show w5.heap.size ≠ w.heap.size; omega) _⟩, HSS.out _ _ _ (HSS.out _ _ _ (HSS.out _ _ _ (HSS.out _ _ _ hS.2)))⟩) (fun hSn => ?_)
        clear hK K hS
        have hS := hSn
        clear hSn
        try simp only [Act.put, List.setIfInBounds_toArray, List.set_cons_zero, List.set_cons_succ, List.getElem_toArray, List.getElem_cons_succ, List.getElem_cons_zero]
        refine wpAnyH_ready (rs := [9]) (by kernel_rfl) (by simp) (AllReadyH.cons rfl (fun K hK => ?a4_9) AllReadyH.nil)
        case' a4_9 =>
          go_simp
          refine hK.out _ _ (hS) (fun hSn => ?_)
          clear hK K hS
          have hS := hSn
          clear hSn
          try simp only [Act.put, List.setIfInBounds_toArray, List.set_cons_zero, List.set_cons_succ, List.getElem_toArray, List.getElem_cons_succ, List.getElem_cons_zero]
          refine wpAnyH_done (by kernel_rfl) ?_ _
  all_goals (
    go_wp2
    refine bodyPost_ret (v := .tuple #[.agg #[.int .i64 R.k, .int .i64 R.n, .slice pp' R.ls.length qq', .slice pp R.ks.length qq], .int .i64 0]) (by rw [results_cell2t (fn := Tryz.f135) (p := 2) (a := 3) (ty := 28) (by kernel_rfl)]; simp [go_sem, y7, z7]) rfl ?_
    have hsz : w2.heap.size ≤ w3.heap.size := H23.out.size
    have hK : ∀ (W : World) i u, Tgt.Keeps (fun b => ((w2.heap.size ≤ b ∧ b ≠ w3.heap.size) ∧ b < w6.heap.size) ∨ w6.heap.size + 3 ≤ b) W (W.setCell ⟨w.heap.size, i, none⟩ u) := fun W i u b o v hb hv => by have hb : ((w2.heap.size ≤ b ∧ b ≠ w3.heap.size) ∧ b < w6.heap.size) ∨ w6.heap.size + 3 ≤ b := hb; rw [World.cell?_of_block (w := W) (Below.heap_setCell _ _ _ _ (by show b ≠ w.heap.size; omega))]; exact hv
    exact ⟨⟨pp', qq', pp, qq, _, rfl, HT7.out.move (((hK _ _ _).trans (hK _ _ _)).trans ((hK _ _ _).trans (hK _ _ _))) (fun b hb => by have hb : ((w2.heap.size ≤ b ∧ b ≠ w3.heap.size) ∧ b < w6.heap.size) ∨ w6.heap.size + 3 ≤ b := hb; show w.heap.size ≤ b; omega)⟩, hS.2⟩)

theorem function_of (w : World) (pb po : Nat) (la : Option Addr) (lc : Nat) (l : List Int) (hc : w.cell? ⟨pb, po, none⟩ = some (.slice la l.length lc)) (hl : Ls w Any (.slice la l.length lc) l) (h64 : ∀ x ∈ l, Tgt.R64 x) (hln : l.length ≤ 1048576) (a b : An)
    (HR : ∀ W, Below w.heap.size w W → Calls Tryz.prog 43 #[.pointer (some ⟨pb, po + 1, none⟩)] W (AnsOf W a)) (HH : ∀ W, Below w.heap.size w W → Calls Tryz.prog 42 #[.pointer (some ⟨pb, po + 6, none⟩)] W (AnsOf W b)) :
    Calls Tryz.prog 135 #[.pointer (some ⟨pb, po, none⟩)] w (AnsOf w (funA l a b)) := by
  by_cases hq : bindE [] l = 0
  · by_cases ha : a.2 = 0
    · by_cases hb : b.2 = 0
      · rw [show funA l a b = (Tt.around 10 l (.mk 4 0 [] [a.1, b.1]), 0) from by unfold funA; rw [if_pos hq, if_pos ha, if_pos hb]]
        exact function_ok w pb po la lc l hc hl h64 hln a b HR HH (by simp [hq]) (by simp [ha]) (by simp [hb])
      · rw [show funA l a b = (zeroA, b.2) from by unfold funA; rw [if_pos hq, if_pos ha, if_neg hb]]
        exact function_e2 w pb po la lc l hc hl h64 hln a b HR HH (by simp [hq]) (by simp [ha]) (by simp [hb])
    · rw [show funA l a b = (zeroA, a.2) from by unfold funA; rw [if_pos hq, if_neg ha]]
      exact function_e1 w pb po la lc l hc hl h64 hln a b HR HH (by simp [hq]) (by simp [ha])
  · rw [show funA l a b = (zeroA, bindE [] l) from by unfold funA; rw [if_neg hq]]
    exact function_e0 w pb po la lc l hc hl h64 hln a b HR HH (by simp [hq])
end Go.Proofs.YtigliglmejkakaaGreat

namespace Go.Proofs.YtigliglmejkakaaGreat
open Go.RowKit
set_option linter.unusedVariables false
set_option linter.unusedSimpArgs false

def zeroT : Tgt.Tt := .mk 0 0 [] []
/-- One form for both answers. -/
theorem TtAns2.one {ok : Bool} {y : Tgt.Tt} {w : World} {e : Ending} {w' : World} (h : TtAns2 ok y w e w') : ∃ p' q' p q N, e = .returned (.tuple #[.agg #[.int .i64 (bif ok then y else zeroT).k, .int .i64 (bif ok then y else zeroT).n, .slice p' (bif ok then y else zeroT).ls.length q', .slice p (bif ok then y else zeroT).ks.length q], .int .i64 (bif ok then 0 else 1)]) ∧ Tgt.TAt w' Tgt.Any N [.int .i64 (bif ok then y else zeroT).k, .int .i64 (bif ok then y else zeroT).n, .slice p' (bif ok then y else zeroT).ls.length q', .slice p (bif ok then y else zeroT).ks.length q] (bif ok then y else zeroT) := by
  rcases h with ⟨rfl, a', c', a, c, N, h1, h2⟩ | ⟨rfl, h1⟩
  · exact ⟨a', c', a, c, N, h1, h2.any⟩
  · exact ⟨none, 0, none, 0, 1, h1, tat_leaf 0 0 (⟨by omega, by omega⟩ : Tgt.R64 0) (⟨by omega, by omega⟩ : Tgt.R64 0)⟩

end Go.Proofs.YtigliglmejkakaaGreat

namespace Go.Proofs.YtigliglmejkakaaGreat
open Go.RowKit
set_option linter.unusedVariables false
set_option linter.unusedSimpArgs false

end Go.Proofs.YtigliglmejkakaaGreat

namespace Go.Proofs.YtigliglmejkakaaGreat
open Go.RowKit
set_option linter.unusedVariables false
set_option linter.unusedSimpArgs false

theorem leaf_cnt (k n : Int) : (Tgt.Tt.mk k n [] []).cnt = 1 := by rw [Tgt.Tt.cnt, Tgt.Tt.cntL]
mutual
theorem made_cnt (k : Int) : ∀ t : Tp, (Tp.made k t).cnt ≤ t.cnt
  | .mk kd n ks => by
    have h := madeL_cnt k ks
    rw [Tp.made, Tp.cnt]
    repeat' split
    all_goals (try (rw [leaf_cnt]; omega))
    all_goals (rw [Tgt.Tt.cnt]; omega)
theorem madeL_cnt (k : Int) : ∀ l : List Tp, Tgt.Tt.cntL (Tp.madeL k l) ≤ Tp.cntL l
  | [] => by rw [Tp.madeL, Tgt.Tt.cntL, Tp.cntL]; exact Nat.le_refl _
  | x :: r => by
    have h1 := made_cnt k x
    have h2 := madeL_cnt k r
    rw [Tp.madeL, Tgt.Tt.cntL, Tp.cntL]
    omega
end
theorem around_cnt (kind : Int) (y : Tgt.Tt) : ∀ l : List Int, (Tt.around kind l y).cnt = y.cnt + l.length
  | [] => rfl
  | x :: r => by
    have h := around_cnt kind y r
    show (Tgt.Tt.mk kind x [] [Tt.around kind r y]).cnt = _
    rw [Tgt.Tt.cnt, Tgt.Tt.cntL, Tgt.Tt.cntL, h, List.length_cons]
    omega
theorem schemeT_cnt (g : Int) (t : Tp) : (t.schemeT g).cnt ≤ t.cnt + g.toNat := by
  unfold Tp.schemeT
  rw [around_cnt, numsT_len]
  have := made_cnt (topK (Tp.found 6 t [])) t
  omega
theorem sumK_cnt (c : Ct) : (sumK c).cnt ≤ Tp.cntL c.args + 1 := by
  unfold sumK
  split
  · rw [leaf_cnt]; omega
  · rename_i x r h
    have := made_cnt 0 x
    rw [h, Tp.cntL]
    omega
theorem sumL_cnt : ∀ l : List Ct, Tgt.Tt.cntL (l.map sumK) ≤ Ct.wt l
  | [] => by rw [List.map_nil, Tgt.Tt.cntL]; exact Nat.zero_le _
  | c :: r => by
    have h1 := sumK_cnt c
    have h2 := sumL_cnt r
    rw [List.map_cons, Tgt.Tt.cntL, Ct.wt_cons]
    unfold Ct.wt1
    omega
theorem sumT_cnt (l : List Ct) : (sumT l).cnt ≤ Ct.wt l + 1 := by
  have := sumL_cnt l
  unfold sumT
  rw [Tgt.Tt.cnt]
  omega
theorem repT_cnt (s : Int) (l : List Ct) : (repT s l).cnt ≤ Ct.wt l + 2 := by
  have := sumT_cnt l
  unfold repT
  rw [Tgt.Tt.cnt, Tgt.Tt.cntL, Tgt.Tt.cntL]
  omega
theorem conT_cnt (s : Int) (c : Ct) : (conT s c).cnt ≤ Tp.cntL c.args + 3 := by
  unfold conT
  split
  · rw [leaf_cnt]; omega
  · rename_i x r h
    have := made_cnt 0 x
    rw [h, Tp.cntL, Tgt.Tt.cnt, Tgt.Tt.cntL, Tgt.Tt.cntL, Tgt.Tt.cntL, leaf_cnt]
    omega
end Go.Proofs.YtigliglmejkakaaGreat

namespace Go.Proofs.YtigliglmejkakaaGreat.Tgt
open Go.RowKit
set_option linter.unusedVariables false
set_option linter.unusedSimpArgs false

mutual
/-- The numbers of a type. -/
def Tt.nums : Tt → List Int
  | .mk _ n _ ks => n :: Tt.numsL ks
def Tt.numsL : List Tt → List Int
  | [] => []
  | x :: r => Tt.nums x ++ Tt.numsL r
end
mutual
theorem Tt.nums_len : ∀ t : Tt, t.nums.length = t.cnt
  | .mk k n ls ks => by rw [Tt.nums, Tt.cnt, List.length_cons, Tt.numsL_len]
theorem Tt.numsL_len : ∀ l : List Tt, (Tt.numsL l).length = Tt.cntL l
  | [] => by rw [Tt.numsL, Tt.cntL]; rfl
  | x :: r => by rw [Tt.numsL, Tt.cntL, List.length_append, Tt.nums_len, Tt.numsL_len]
end
mutual
theorem Tt.fv_nums (x : Int) : ∀ (t : Tt) (e : List (Int × Int)), t.fv e x = true → x ∈ t.nums
  | .mk k n ls ks, e, h => by
    rw [Tt.fv_mk] at h
    simp only [Bool.or_eq_true, Bool.and_eq_true, beq_iff_eq] at h
    rw [Tt.nums]
    rcases h with ⟨-, h, -⟩ | h
    · have h : n = x := h
      simp [h]
    · exact List.mem_cons_of_mem _ (Tt.fvL_nums x ks _ h)
theorem Tt.fvL_nums (x : Int) : ∀ (l : List Tt) (e : List (Int × Int)), Tt.fvL l e x = true → x ∈ Tt.numsL l
  | [], e, h => by rw [Tt.fvL] at h; cases h
  | t :: r, e, h => by
    rw [Tt.fvL] at h
    simp only [Bool.or_eq_true] at h
    rw [Tt.numsL, List.mem_append]
    exact h.imp (Tt.fv_nums x t e) (Tt.fvL_nums x r e)
end
theorem lk_env {x : Int} {t : Tt} {e e' : List (Int × Int)} (h : lk e x = none → lk e' x = none) : lk (t.env e) x = none → lk (t.env e') x = none := by
  unfold Tt.env
  split
  · intro hq
    rw [lk_cons] at hq ⊢
    split at hq
    · cases hq
    · rename_i hne; rw [if_neg hne]; exact h hq
  · exact h
mutual
/-- What stands free under fewer binders. -/
theorem Tt.fv_weak (x : Int) : ∀ (t : Tt) (e e' : List (Int × Int)), (lk e x = none → lk e' x = none) → t.fv e x = true → t.fv e' x = true
  | .mk k n ls ks, e, e', h, hf => by
    rw [Tt.fv_mk] at hf ⊢
    simp only [Bool.or_eq_true, Bool.and_eq_true, beq_iff_eq, Option.isNone_iff_eq_none] at hf ⊢
    rcases hf with ⟨h1, h2, h3⟩ | hf
    · exact .inl ⟨h1, h2, h h3⟩
    · exact .inr (Tt.fvL_weak x ks _ _ (lk_env h) hf)
theorem Tt.fvL_weak (x : Int) : ∀ (l : List Tt) (e e' : List (Int × Int)), (lk e x = none → lk e' x = none) → Tt.fvL l e x = true → Tt.fvL l e' x = true
  | [], e, e', h, hf => by rw [Tt.fvL] at hf; cases hf
  | t :: r, e, e', h, hf => by
    rw [Tt.fvL] at hf ⊢
    simp only [Bool.or_eq_true] at hf ⊢
    exact hf.imp (Tt.fv_weak x t e e' h) (Tt.fvL_weak x r e e' h)
end
end Go.Proofs.YtigliglmejkakaaGreat.Tgt
