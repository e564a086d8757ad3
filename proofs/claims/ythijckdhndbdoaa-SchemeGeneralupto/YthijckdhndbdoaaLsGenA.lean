/- SchemeGeneral: the walk, a case. -/
import Derived.Test.YthijckdhndbdoaaTsGn
import Derived.Test.YthijckdhndbdoaaLsBack
namespace Go.Proofs.Ythijckdhndbdoaa
open Go.RowKit
set_option linter.unusedVariables false
set_option linter.unusedSimpArgs false
set_option maxHeartbeats 16000000 in
set_option maxRecDepth 100000 in
theorem general_AM0 (w : World) (nl : Nat) (ga gb : Int) (t y a b : Tp) (t1 a1 b1 kp lp : Option Addr) (t2 a2 b2 kc lc m : Nat) (keep : List Int) (l : List Tp) (hGe : Hid (∀ wz, Below w.heap.size w wz → Calls Try.prog 21 #[.agg #[.int .i64 t.k, .int .i64 t.n, .slice t1 t.ks.length t2], .slice kp keep.length kc] wz fun e w' => ∃ a5 n5 c5, e = .returned (.agg #[.int .i64 (m : Nat), .int .i64 y.k, .int .i64 y.n, .slice a5 y.ks.length c5]) ∧ TAt w' Any n5 [.int .i64 y.k, .int .i64 y.n, .slice a5 y.ks.length c5] y ∧ Below wz.heap.size wz w')) (hRi : Hid (∀ wz, Below w.heap.size w wz → Calls Try.prog 22 #[.agg #[.int .i64 t.k, .int .i64 t.n, .slice t1 t.ks.length t2]] wz fun e w' => e = .returned (.bool false) ∧ Below wz.heap.size wz w')) (hMa : Hid (∀ wz, Below w.heap.size w wz → Calls Try.prog 14 #[.agg #[.int .i64 ga, .int .i64 a.k, .int .i64 a.n, .slice a1 a.ks.length a2], .agg #[.int .i64 gb, .int .i64 b.k, .int .i64 b.n, .slice b1 b.ks.length b2]] wz fun e w' => e = .returned (.tuple #[.slice none 0 0, .bool false]) ∧ Below wz.heap.size wz w')) (hLive : Hid (∀ wz, Calls Try.prog 13 #[] wz fun e w' => e = .returned (.bool true) ∧ Below wz.heap.size wz w')) :
    Calls Try.prog 5 #[.agg #[.int .i64 t.k, .int .i64 t.n, .slice t1 t.ks.length t2], .slice kp keep.length kc, .slice lp l.length lc, .agg #[.int .i64 ga, .int .i64 a.k, .int .i64 a.n, .slice a1 a.ks.length a2], .agg #[.int .i64 gb, .int .i64 b.k, .int .i64 b.n, .slice b1 b.ks.length b2]] w fun e w' => e = .returned (.bool true) ∧ Below w.heap.size w w' := by
  have Z := hid (((st_new w).stays (bl_alloc (bl_alloc (bl_alloc (Below.refl _ _) (.cells #[.int .i64 t.k, .int .i64 t.n, .slice t1 t.ks.length t2] 24)) (.cells #[.int .i64 ga, .int .i64 a.k, .int .i64 a.n, .slice a1 a.ks.length a2] 26)) (.cells #[.int .i64 gb, .int .i64 b.k, .int .i64 b.n, .slice b1 b.ks.length b2] 26))).addA (b := w.heap.size) (T := 24) (cur := [.int .i64 t.k, .int .i64 t.n, .slice t1 t.ks.length t2]) (Arr.stays (Arr.stays ⟨heap_alloc_at _ _⟩ (bl_alloc (Below.refl _ _) _)) (bl_alloc (Below.refl _ _) _)))
  have Z := hid (Z.out.addA (b := w.heap.size + 1) (T := 26) (cur := [.int .i64 ga, .int .i64 a.k, .int .i64 a.n, .slice a1 a.ks.length a2]) (Arr.stays ⟨by have := heap_alloc_at (w.alloc (.cells #[.int .i64 t.k, .int .i64 t.n, .slice t1 t.ks.length t2] 24)) (.cells #[.int .i64 ga, .int .i64 a.k, .int .i64 a.n, .slice a1 a.ks.length a2] 26); rw [size_alloc] at this; exact this⟩ (bl_alloc (Below.refl _ _) _)))
  have Z := hid (Z.out.addA (b := w.heap.size + 1 + 1) (T := 26) (cur := [.int .i64 gb, .int .i64 b.k, .int .i64 b.n, .slice b1 b.ks.length b2]) ⟨by have := heap_alloc_at ((w.alloc (.cells #[.int .i64 t.k, .int .i64 t.n, .slice t1 t.ks.length t2] 24)).alloc (.cells #[.int .i64 ga, .int .i64 a.k, .int .i64 a.n, .slice a1 a.ks.length a2] 26)) (.cells #[.int .i64 gb, .int .i64 b.k, .int .i64 b.n, .slice b1 b.ks.length b2] 26); rw [size_alloc, size_alloc] at this; exact this⟩)
  obtain ⟨P, Z, kt, ka, kb, kB⟩ : ∃ P : World → Prop, Hid (St P (((w.alloc (.cells #[.int .i64 t.k, .int .i64 t.n, .slice t1 t.ks.length t2] 24)).alloc (.cells #[.int .i64 ga, .int .i64 a.k, .int .i64 a.n, .slice a1 a.ks.length a2] 26)).alloc (.cells #[.int .i64 gb, .int .i64 b.k, .int .i64 b.n, .slice b1 b.ks.length b2] 26))) ∧ Hid (∀ W, P W → ∀ j : Nat, W.cell? ⟨w.heap.size, j, none⟩ = [.int .i64 t.k, .int .i64 t.n, .slice t1 t.ks.length t2][j]?) ∧ Hid (∀ W, P W → ∀ j : Nat, W.cell? ⟨w.heap.size + 1, j, none⟩ = [.int .i64 ga, .int .i64 a.k, .int .i64 a.n, .slice a1 a.ks.length a2][j]?) ∧ Hid (∀ W, P W → ∀ j : Nat, W.cell? ⟨w.heap.size + 1 + 1, j, none⟩ = [.int .i64 gb, .int .i64 b.k, .int .i64 b.n, .slice b1 b.ks.length b2][j]?) ∧ Hid (∀ W, P W → Below w.heap.size w W) :=
    ⟨_, Z, fun W h => h.1.1.2.cell, fun W h => h.1.2.cell, fun W h => h.2.cell, fun W h => h.1.1.1⟩
  have m1 : Hid True := trivial
  have m2 : Hid True := trivial
  have m3 : Hid True := trivial
  have m4 : Hid True := trivial
  have m5 : Hid True := trivial
  have m6 : Hid True := trivial
  have m7 : Hid True := trivial
  have m8 : Hid True := trivial
  go_enter Try.func5, Try.ntmps5
  go_wp2_with (first
    | (go_at_call 21; refine (hGe.out _ (kB.out _ Z.out.here)).mono ?_; rintro e w1 ⟨a5, n5, c5, rfl, hT1, hb1⟩; have Z1 := hid ((Z.out.stays hb1).addT hT1); have HT1 := hid hT1; have xt1 := fun o => kt.out _ (Z1.out.stays (bl_alloc (Below.refl _ _) o)).here.1; clear hb1 hT1)
    | (go_at_call 22; have := m1; refine (hRi.out _ (bl_alloc (kB.out _ Z1.out.here.1) _)).mono ?_; rintro e w2 ⟨rfl, hb2⟩; have Z2 := hid (((Z1.out.stays (bl_alloc (Below.refl _ _) (.cells #[.int .i64 (m : Nat), .int .i64 y.k, .int .i64 y.n, .slice a5 y.ks.length c5] 26))).addA (b := w1.heap.size) (T := 26) (cur := [.int .i64 (m : Nat), .int .i64 y.k, .int .i64 y.n, .slice a5 y.ks.length c5]) ⟨heap_alloc_at _ _⟩).stays hb2); have xt2 := kt.out _ Z2.out.here.1.1; have xs2 := Z2.out.here.2.cell; have xa2 := ka.out _ Z2.out.here.1.1; have xb2 := kb.out _ Z2.out.here.1.1; clear hb2 m1)
    | (go_at_call 14; have := m4; refine (hMa.out _ (kB.out _ Z2.out.here.1.1)).mono ?_; rintro e v1 ⟨rfl, hv1⟩; have Y1 := hid (Z2.out.stays hv1); have ya1 := ka.out _ Y1.out.here.1.1; have yb1 := kb.out _ Y1.out.here.1.1; clear hv1 m4)
    | (go_at_call 13; refine (hLive.out _).mono ?_; rintro e v4 ⟨rfl, hv4⟩; have HE := hid (bl_tr (kB.out _ Y1.out.here.1.1) hv4); clear hv4))
  go_ret
  exact ⟨rfl, HE.out⟩

set_option maxHeartbeats 16000000 in
set_option maxRecDepth 100000 in
theorem general_AM1 (w : World) (nl : Nat) (ga gb : Int) (t y a b : Tp) (t1 a1 b1 kp lp : Option Addr) (t2 a2 b2 kc lc m : Nat) (keep : List Int) (l : List Tp) (hGe : Hid (∀ wz, Below w.heap.size w wz → Calls Try.prog 21 #[.agg #[.int .i64 t.k, .int .i64 t.n, .slice t1 t.ks.length t2], .slice kp keep.length kc] wz fun e w' => ∃ a5 n5 c5, e = .returned (.agg #[.int .i64 (m : Nat), .int .i64 y.k, .int .i64 y.n, .slice a5 y.ks.length c5]) ∧ TAt w' Any n5 [.int .i64 y.k, .int .i64 y.n, .slice a5 y.ks.length c5] y ∧ Below wz.heap.size wz w')) (hRi : Hid (∀ wz, Below w.heap.size w wz → Calls Try.prog 22 #[.agg #[.int .i64 t.k, .int .i64 t.n, .slice t1 t.ks.length t2]] wz fun e w' => e = .returned (.bool false) ∧ Below wz.heap.size wz w')) (ml : List Tp) (hMa : Hid (∀ wz, Below w.heap.size w wz → Calls Try.prog 14 #[.agg #[.int .i64 ga, .int .i64 a.k, .int .i64 a.n, .slice a1 a.ks.length a2], .agg #[.int .i64 gb, .int .i64 b.k, .int .i64 b.n, .slice b1 b.ks.length b2]] wz fun e w' => ∃ p c N, e = .returned (.tuple #[.slice p ml.length c, .bool true]) ∧ TAtL w' Any N (.slice p ml.length c) ml ∧ Below wz.heap.size wz w')) (hI2 : Hid (∀ wz p c N, Below w.heap.size w wz → TAtL wz Any N (.slice p ml.length c) ml → Calls Try.prog 10 #[.agg #[.int .i64 ga, .int .i64 a.k, .int .i64 a.n, .slice a1 a.ks.length a2], .slice p ml.length c] wz fun e w' => ∃ a9 n9 c9, e = .returned (.tuple #[.agg #[.int .i64 b.k, .int .i64 b.n, .slice a9 b.ks.length c9], .int .i64 0]) ∧ TAt w' Any n9 [.int .i64 b.k, .int .i64 b.n, .slice a9 b.ks.length c9] b ∧ Below wz.heap.size wz w')) (hSa : Hid (∀ wz a9 n9 c9, Below w.heap.size w wz → TAt wz Any n9 [.int .i64 b.k, .int .i64 b.n, .slice a9 b.ks.length c9] b → Calls Try.prog 26 #[.agg #[.int .i64 b.k, .int .i64 b.n, .slice a9 b.ks.length c9], .agg #[.int .i64 b.k, .int .i64 b.n, .slice b1 b.ks.length b2]] wz fun e w' => e = .returned (.bool true) ∧ Below wz.heap.size wz w')) (hLive : Hid (∀ wz, Calls Try.prog 13 #[] wz fun e w' => e = .returned (.bool true) ∧ Below wz.heap.size wz w')) :
    Calls Try.prog 5 #[.agg #[.int .i64 t.k, .int .i64 t.n, .slice t1 t.ks.length t2], .slice kp keep.length kc, .slice lp l.length lc, .agg #[.int .i64 ga, .int .i64 a.k, .int .i64 a.n, .slice a1 a.ks.length a2], .agg #[.int .i64 gb, .int .i64 b.k, .int .i64 b.n, .slice b1 b.ks.length b2]] w fun e w' => e = .returned (.bool true) ∧ Below w.heap.size w w' := by
  have Z := hid (((st_new w).stays (bl_alloc (bl_alloc (bl_alloc (Below.refl _ _) (.cells #[.int .i64 t.k, .int .i64 t.n, .slice t1 t.ks.length t2] 24)) (.cells #[.int .i64 ga, .int .i64 a.k, .int .i64 a.n, .slice a1 a.ks.length a2] 26)) (.cells #[.int .i64 gb, .int .i64 b.k, .int .i64 b.n, .slice b1 b.ks.length b2] 26))).addA (b := w.heap.size) (T := 24) (cur := [.int .i64 t.k, .int .i64 t.n, .slice t1 t.ks.length t2]) (Arr.stays (Arr.stays ⟨heap_alloc_at _ _⟩ (bl_alloc (Below.refl _ _) _)) (bl_alloc (Below.refl _ _) _)))
  have Z := hid (Z.out.addA (b := w.heap.size + 1) (T := 26) (cur := [.int .i64 ga, .int .i64 a.k, .int .i64 a.n, .slice a1 a.ks.length a2]) (Arr.stays ⟨by have := heap_alloc_at (w.alloc (.cells #[.int .i64 t.k, .int .i64 t.n, .slice t1 t.ks.length t2] 24)) (.cells #[.int .i64 ga, .int .i64 a.k, .int .i64 a.n, .slice a1 a.ks.length a2] 26); rw [size_alloc] at this; exact this⟩ (bl_alloc (Below.refl _ _) _)))
  have Z := hid (Z.out.addA (b := w.heap.size + 1 + 1) (T := 26) (cur := [.int .i64 gb, .int .i64 b.k, .int .i64 b.n, .slice b1 b.ks.length b2]) ⟨by have := heap_alloc_at ((w.alloc (.cells #[.int .i64 t.k, .int .i64 t.n, .slice t1 t.ks.length t2] 24)).alloc (.cells #[.int .i64 ga, .int .i64 a.k, .int .i64 a.n, .slice a1 a.ks.length a2] 26)) (.cells #[.int .i64 gb, .int .i64 b.k, .int .i64 b.n, .slice b1 b.ks.length b2] 26); rw [size_alloc, size_alloc] at this; exact this⟩)
  obtain ⟨P, Z, kt, ka, kb, kB⟩ : ∃ P : World → Prop, Hid (St P (((w.alloc (.cells #[.int .i64 t.k, .int .i64 t.n, .slice t1 t.ks.length t2] 24)).alloc (.cells #[.int .i64 ga, .int .i64 a.k, .int .i64 a.n, .slice a1 a.ks.length a2] 26)).alloc (.cells #[.int .i64 gb, .int .i64 b.k, .int .i64 b.n, .slice b1 b.ks.length b2] 26))) ∧ Hid (∀ W, P W → ∀ j : Nat, W.cell? ⟨w.heap.size, j, none⟩ = [.int .i64 t.k, .int .i64 t.n, .slice t1 t.ks.length t2][j]?) ∧ Hid (∀ W, P W → ∀ j : Nat, W.cell? ⟨w.heap.size + 1, j, none⟩ = [.int .i64 ga, .int .i64 a.k, .int .i64 a.n, .slice a1 a.ks.length a2][j]?) ∧ Hid (∀ W, P W → ∀ j : Nat, W.cell? ⟨w.heap.size + 1 + 1, j, none⟩ = [.int .i64 gb, .int .i64 b.k, .int .i64 b.n, .slice b1 b.ks.length b2][j]?) ∧ Hid (∀ W, P W → Below w.heap.size w W) :=
    ⟨_, Z, fun W h => h.1.1.2.cell, fun W h => h.1.2.cell, fun W h => h.2.cell, fun W h => h.1.1.1⟩
  have m1 : Hid True := trivial
  have m2 : Hid True := trivial
  have m3 : Hid True := trivial
  have m4 : Hid True := trivial
  have m5 : Hid True := trivial
  have m6 : Hid True := trivial
  have m7 : Hid True := trivial
  have m8 : Hid True := trivial
  go_enter Try.func5, Try.ntmps5
  go_wp2_with (first
    | (go_at_call 21; refine (hGe.out _ (kB.out _ Z.out.here)).mono ?_; rintro e w1 ⟨a5, n5, c5, rfl, hT1, hb1⟩; have Z1 := hid ((Z.out.stays hb1).addT hT1); have HT1 := hid hT1; have xt1 := fun o => kt.out _ (Z1.out.stays (bl_alloc (Below.refl _ _) o)).here.1; clear hb1 hT1)
    | (go_at_call 22; have := m1; refine (hRi.out _ (bl_alloc (kB.out _ Z1.out.here.1) _)).mono ?_; rintro e w2 ⟨rfl, hb2⟩; have Z2 := hid (((Z1.out.stays (bl_alloc (Below.refl _ _) (.cells #[.int .i64 (m : Nat), .int .i64 y.k, .int .i64 y.n, .slice a5 y.ks.length c5] 26))).addA (b := w1.heap.size) (T := 26) (cur := [.int .i64 (m : Nat), .int .i64 y.k, .int .i64 y.n, .slice a5 y.ks.length c5]) ⟨heap_alloc_at _ _⟩).stays hb2); have xt2 := kt.out _ Z2.out.here.1.1; have xs2 := Z2.out.here.2.cell; have xa2 := ka.out _ Z2.out.here.1.1; have xb2 := kb.out _ Z2.out.here.1.1; clear hb2 m1)
    | (go_at_call 14; have := m4; refine (hMa.out _ (kB.out _ Z2.out.here.1.1)).mono ?_; rintro e v1 ⟨p1, q1, N1, rfl, hL1, hv1⟩; have HL1 := hid hL1; clear hL1; have Y1 := hid (Z2.out.stays hv1); have ya1 := ka.out _ Y1.out.here.1.1; have yb1 := kb.out _ Y1.out.here.1.1; clear hv1 m4)
    | (go_at_call 10; have := m5; refine (hI2.out _ _ _ _ (kB.out _ Y1.out.here.1.1) HL1.out).mono ?_; rintro e v2 ⟨a9, n9, c9, rfl, hT9, hv2⟩; have Y2 := hid (Y1.out.stays hv2); have HT9 := hid hT9; have yb2 := kb.out _ (Y2.out.stays (bl_alloc (Below.refl _ _) (.cells #[.int .i64 b.k, .int .i64 b.n, .slice a9 b.ks.length c9] 24))).here.1.1; clear hv2 hT9 m5)
    | (go_at_call 26; have := m6; refine (hSa.out _ _ _ _ (bl_alloc (kB.out _ Y2.out.here.1.1) _) (HT9.out.below (bl_alloc (Below.refl _ _) _))).mono ?_; rintro e v3 ⟨rfl, hv3⟩; have Y3 := hid ((Y2.out.stays (bl_alloc (Below.refl _ _) _)).stays hv3); clear hv3 m6)
    | (go_at_call 13; refine (hLive.out _).mono ?_; rintro e v4 ⟨rfl, hv4⟩; have HE := hid (bl_tr (kB.out _ Y3.out.here.1.1) hv4); clear hv4))
  go_ret
  exact ⟨rfl, HE.out⟩

set_option maxHeartbeats 16000000 in
set_option maxRecDepth 100000 in
theorem general_AM2 (w : World) (nl : Nat) (ga gb : Int) (t y a b : Tp) (t1 a1 b1 kp lp : Option Addr) (t2 a2 b2 kc lc m : Nat) (keep : List Int) (l : List Tp) (hGe : Hid (∀ wz, Below w.heap.size w wz → Calls Try.prog 21 #[.agg #[.int .i64 t.k, .int .i64 t.n, .slice t1 t.ks.length t2], .slice kp keep.length kc] wz fun e w' => ∃ a5 n5 c5, e = .returned (.agg #[.int .i64 (m : Nat), .int .i64 y.k, .int .i64 y.n, .slice a5 y.ks.length c5]) ∧ TAt w' Any n5 [.int .i64 y.k, .int .i64 y.n, .slice a5 y.ks.length c5] y ∧ Below wz.heap.size wz w')) (hRi : Hid (∀ wz, Below w.heap.size w wz → Calls Try.prog 22 #[.agg #[.int .i64 t.k, .int .i64 t.n, .slice t1 t.ks.length t2]] wz fun e w' => e = .returned (.bool false) ∧ Below wz.heap.size wz w')) (ml : List Tp) (hMa : Hid (∀ wz, Below w.heap.size w wz → Calls Try.prog 14 #[.agg #[.int .i64 ga, .int .i64 a.k, .int .i64 a.n, .slice a1 a.ks.length a2], .agg #[.int .i64 gb, .int .i64 b.k, .int .i64 b.n, .slice b1 b.ks.length b2]] wz fun e w' => ∃ p c N, e = .returned (.tuple #[.slice p ml.length c, .bool true]) ∧ TAtL w' Any N (.slice p ml.length c) ml ∧ Below wz.heap.size wz w')) (hI2 : Hid (∀ wz p c N, Below w.heap.size w wz → TAtL wz Any N (.slice p ml.length c) ml → Calls Try.prog 10 #[.agg #[.int .i64 ga, .int .i64 a.k, .int .i64 a.n, .slice a1 a.ks.length a2], .slice p ml.length c] wz fun e w' => ∃ (a9 : Option Addr) (c9 : Nat), e = .returned (.tuple #[.agg #[.int .i64 0, .int .i64 0, .slice a9 0 c9], .int .i64 3]) ∧ Below wz.heap.size wz w')) (hFi : Hid (∀ wz, Below w.heap.size w wz → Calls Try.prog 27 #[.agg #[.int .i64 b.k, .int .i64 b.n, .slice b1 b.ks.length b2]] wz fun e w' => e = .returned (.bool false) ∧ Below wz.heap.size wz w')) (hLive : Hid (∀ wz, Calls Try.prog 13 #[] wz fun e w' => e = .returned (.bool true) ∧ Below wz.heap.size wz w')) :
    Calls Try.prog 5 #[.agg #[.int .i64 t.k, .int .i64 t.n, .slice t1 t.ks.length t2], .slice kp keep.length kc, .slice lp l.length lc, .agg #[.int .i64 ga, .int .i64 a.k, .int .i64 a.n, .slice a1 a.ks.length a2], .agg #[.int .i64 gb, .int .i64 b.k, .int .i64 b.n, .slice b1 b.ks.length b2]] w fun e w' => e = .returned (.bool true) ∧ Below w.heap.size w w' := by
  have Z := hid (((st_new w).stays (bl_alloc (bl_alloc (bl_alloc (Below.refl _ _) (.cells #[.int .i64 t.k, .int .i64 t.n, .slice t1 t.ks.length t2] 24)) (.cells #[.int .i64 ga, .int .i64 a.k, .int .i64 a.n, .slice a1 a.ks.length a2] 26)) (.cells #[.int .i64 gb, .int .i64 b.k, .int .i64 b.n, .slice b1 b.ks.length b2] 26))).addA (b := w.heap.size) (T := 24) (cur := [.int .i64 t.k, .int .i64 t.n, .slice t1 t.ks.length t2]) (Arr.stays (Arr.stays ⟨heap_alloc_at _ _⟩ (bl_alloc (Below.refl _ _) _)) (bl_alloc (Below.refl _ _) _)))
  have Z := hid (Z.out.addA (b := w.heap.size + 1) (T := 26) (cur := [.int .i64 ga, .int .i64 a.k, .int .i64 a.n, .slice a1 a.ks.length a2]) (Arr.stays ⟨by have := heap_alloc_at (w.alloc (.cells #[.int .i64 t.k, .int .i64 t.n, .slice t1 t.ks.length t2] 24)) (.cells #[.int .i64 ga, .int .i64 a.k, .int .i64 a.n, .slice a1 a.ks.length a2] 26); rw [size_alloc] at this; exact this⟩ (bl_alloc (Below.refl _ _) _)))
  have Z := hid (Z.out.addA (b := w.heap.size + 1 + 1) (T := 26) (cur := [.int .i64 gb, .int .i64 b.k, .int .i64 b.n, .slice b1 b.ks.length b2]) ⟨by have := heap_alloc_at ((w.alloc (.cells #[.int .i64 t.k, .int .i64 t.n, .slice t1 t.ks.length t2] 24)).alloc (.cells #[.int .i64 ga, .int .i64 a.k, .int .i64 a.n, .slice a1 a.ks.length a2] 26)) (.cells #[.int .i64 gb, .int .i64 b.k, .int .i64 b.n, .slice b1 b.ks.length b2] 26); rw [size_alloc, size_alloc] at this; exact this⟩)
  obtain ⟨P, Z, kt, ka, kb, kB⟩ : ∃ P : World → Prop, Hid (St P (((w.alloc (.cells #[.int .i64 t.k, .int .i64 t.n, .slice t1 t.ks.length t2] 24)).alloc (.cells #[.int .i64 ga, .int .i64 a.k, .int .i64 a.n, .slice a1 a.ks.length a2] 26)).alloc (.cells #[.int .i64 gb, .int .i64 b.k, .int .i64 b.n, .slice b1 b.ks.length b2] 26))) ∧ Hid (∀ W, P W → ∀ j : Nat, W.cell? ⟨w.heap.size, j, none⟩ = [.int .i64 t.k, .int .i64 t.n, .slice t1 t.ks.length t2][j]?) ∧ Hid (∀ W, P W → ∀ j : Nat, W.cell? ⟨w.heap.size + 1, j, none⟩ = [.int .i64 ga, .int .i64 a.k, .int .i64 a.n, .slice a1 a.ks.length a2][j]?) ∧ Hid (∀ W, P W → ∀ j : Nat, W.cell? ⟨w.heap.size + 1 + 1, j, none⟩ = [.int .i64 gb, .int .i64 b.k, .int .i64 b.n, .slice b1 b.ks.length b2][j]?) ∧ Hid (∀ W, P W → Below w.heap.size w W) :=
    ⟨_, Z, fun W h => h.1.1.2.cell, fun W h => h.1.2.cell, fun W h => h.2.cell, fun W h => h.1.1.1⟩
  have m1 : Hid True := trivial
  have m2 : Hid True := trivial
  have m3 : Hid True := trivial
  have m4 : Hid True := trivial
  have m5 : Hid True := trivial
  have m6 : Hid True := trivial
  have m7 : Hid True := trivial
  have m8 : Hid True := trivial
  go_enter Try.func5, Try.ntmps5
  go_wp2_with (first
    | (go_at_call 21; refine (hGe.out _ (kB.out _ Z.out.here)).mono ?_; rintro e w1 ⟨a5, n5, c5, rfl, hT1, hb1⟩; have Z1 := hid ((Z.out.stays hb1).addT hT1); have HT1 := hid hT1; have xt1 := fun o => kt.out _ (Z1.out.stays (bl_alloc (Below.refl _ _) o)).here.1; clear hb1 hT1)
    | (go_at_call 22; have := m1; refine (hRi.out _ (bl_alloc (kB.out _ Z1.out.here.1) _)).mono ?_; rintro e w2 ⟨rfl, hb2⟩; have Z2 := hid (((Z1.out.stays (bl_alloc (Below.refl _ _) (.cells #[.int .i64 (m : Nat), .int .i64 y.k, .int .i64 y.n, .slice a5 y.ks.length c5] 26))).addA (b := w1.heap.size) (T := 26) (cur := [.int .i64 (m : Nat), .int .i64 y.k, .int .i64 y.n, .slice a5 y.ks.length c5]) ⟨heap_alloc_at _ _⟩).stays hb2); have xt2 := kt.out _ Z2.out.here.1.1; have xs2 := Z2.out.here.2.cell; have xa2 := ka.out _ Z2.out.here.1.1; have xb2 := kb.out _ Z2.out.here.1.1; clear hb2 m1)
    | (go_at_call 14; have := m4; refine (hMa.out _ (kB.out _ Z2.out.here.1.1)).mono ?_; rintro e v1 ⟨p1, q1, N1, rfl, hL1, hv1⟩; have HL1 := hid hL1; clear hL1; have Y1 := hid (Z2.out.stays hv1); have ya1 := ka.out _ Y1.out.here.1.1; have yb1 := kb.out _ Y1.out.here.1.1; clear hv1 m4)
    | (go_at_call 10; have := m5; refine (hI2.out _ _ _ _ (kB.out _ Y1.out.here.1.1) HL1.out).mono ?_; rintro e v2 ⟨a9, c9, rfl, hv2⟩; have Y2 := hid (Y1.out.stays hv2); have yb2 := kb.out _ (Y2.out.stays (bl_alloc (Below.refl _ _) (.cells #[.int .i64 0, .int .i64 0, .slice a9 0 c9] 24))).here.1.1; clear hv2 m5)
    | (go_at_call 27; have := m6; refine (hFi.out _ (bl_alloc (kB.out _ Y2.out.here.1.1) _)).mono ?_; rintro e v3 ⟨rfl, hv3⟩; have Y3 := hid ((Y2.out.stays (bl_alloc (Below.refl _ _) _)).stays hv3); clear hv3 m6)
    | (go_at_call 13; refine (hLive.out _).mono ?_; rintro e v4 ⟨rfl, hv4⟩; have HE := hid (bl_tr (kB.out _ Y3.out.here.1.1) hv4); clear hv4))
  go_ret
  exact ⟨rfl, HE.out⟩

set_option maxHeartbeats 16000000 in
set_option maxRecDepth 100000 in
theorem general_BM0 (w : World) (nl : Nat) (ga gb : Int) (t y a b : Tp) (t1 a1 b1 kp lp : Option Addr) (t2 a2 b2 kc lc m : Nat) (keep : List Int) (l : List Tp) (hGe : Hid (∀ wz, Below w.heap.size w wz → Calls Try.prog 21 #[.agg #[.int .i64 t.k, .int .i64 t.n, .slice t1 t.ks.length t2], .slice kp keep.length kc] wz fun e w' => ∃ a5 n5 c5, e = .returned (.agg #[.int .i64 (m : Nat), .int .i64 y.k, .int .i64 y.n, .slice a5 y.ks.length c5]) ∧ TAt w' Any n5 [.int .i64 y.k, .int .i64 y.n, .slice a5 y.ks.length c5] y ∧ Below wz.heap.size wz w')) (hRi : Hid (∀ wz, Below w.heap.size w wz → Calls Try.prog 22 #[.agg #[.int .i64 t.k, .int .i64 t.n, .slice t1 t.ks.length t2]] wz fun e w' => e = .returned (.bool true) ∧ Below wz.heap.size wz w')) (g8 : Nat) (hg8 : ((g8 : Int) == 0) = false) (hGn : Hid (∀ wz, Below w.heap.size w wz → Calls Try.prog 23 #[.agg #[.int .i64 t.k, .int .i64 t.n, .slice t1 t.ks.length t2]] wz fun e w' => ∃ p q, e = .returned (.slice p g8 q) ∧ Below wz.heap.size wz w')) (hMa : Hid (∀ wz, Below w.heap.size w wz → Calls Try.prog 14 #[.agg #[.int .i64 ga, .int .i64 a.k, .int .i64 a.n, .slice a1 a.ks.length a2], .agg #[.int .i64 gb, .int .i64 b.k, .int .i64 b.n, .slice b1 b.ks.length b2]] wz fun e w' => e = .returned (.tuple #[.slice none 0 0, .bool false]) ∧ Below wz.heap.size wz w')) (hLive : Hid (∀ wz, Calls Try.prog 13 #[] wz fun e w' => e = .returned (.bool true) ∧ Below wz.heap.size wz w')) :
    Calls Try.prog 5 #[.agg #[.int .i64 t.k, .int .i64 t.n, .slice t1 t.ks.length t2], .slice kp keep.length kc, .slice lp l.length lc, .agg #[.int .i64 ga, .int .i64 a.k, .int .i64 a.n, .slice a1 a.ks.length a2], .agg #[.int .i64 gb, .int .i64 b.k, .int .i64 b.n, .slice b1 b.ks.length b2]] w fun e w' => e = .returned (.bool true) ∧ Below w.heap.size w w' := by
  have Z := hid (((st_new w).stays (bl_alloc (bl_alloc (bl_alloc (Below.refl _ _) (.cells #[.int .i64 t.k, .int .i64 t.n, .slice t1 t.ks.length t2] 24)) (.cells #[.int .i64 ga, .int .i64 a.k, .int .i64 a.n, .slice a1 a.ks.length a2] 26)) (.cells #[.int .i64 gb, .int .i64 b.k, .int .i64 b.n, .slice b1 b.ks.length b2] 26))).addA (b := w.heap.size) (T := 24) (cur := [.int .i64 t.k, .int .i64 t.n, .slice t1 t.ks.length t2]) (Arr.stays (Arr.stays ⟨heap_alloc_at _ _⟩ (bl_alloc (Below.refl _ _) _)) (bl_alloc (Below.refl _ _) _)))
  have Z := hid (Z.out.addA (b := w.heap.size + 1) (T := 26) (cur := [.int .i64 ga, .int .i64 a.k, .int .i64 a.n, .slice a1 a.ks.length a2]) (Arr.stays ⟨by have := heap_alloc_at (w.alloc (.cells #[.int .i64 t.k, .int .i64 t.n, .slice t1 t.ks.length t2] 24)) (.cells #[.int .i64 ga, .int .i64 a.k, .int .i64 a.n, .slice a1 a.ks.length a2] 26); rw [size_alloc] at this; exact this⟩ (bl_alloc (Below.refl _ _) _)))
  have Z := hid (Z.out.addA (b := w.heap.size + 1 + 1) (T := 26) (cur := [.int .i64 gb, .int .i64 b.k, .int .i64 b.n, .slice b1 b.ks.length b2]) ⟨by have := heap_alloc_at ((w.alloc (.cells #[.int .i64 t.k, .int .i64 t.n, .slice t1 t.ks.length t2] 24)).alloc (.cells #[.int .i64 ga, .int .i64 a.k, .int .i64 a.n, .slice a1 a.ks.length a2] 26)) (.cells #[.int .i64 gb, .int .i64 b.k, .int .i64 b.n, .slice b1 b.ks.length b2] 26); rw [size_alloc, size_alloc] at this; exact this⟩)
  obtain ⟨P, Z, kt, ka, kb, kB⟩ : ∃ P : World → Prop, Hid (St P (((w.alloc (.cells #[.int .i64 t.k, .int .i64 t.n, .slice t1 t.ks.length t2] 24)).alloc (.cells #[.int .i64 ga, .int .i64 a.k, .int .i64 a.n, .slice a1 a.ks.length a2] 26)).alloc (.cells #[.int .i64 gb, .int .i64 b.k, .int .i64 b.n, .slice b1 b.ks.length b2] 26))) ∧ Hid (∀ W, P W → ∀ j : Nat, W.cell? ⟨w.heap.size, j, none⟩ = [.int .i64 t.k, .int .i64 t.n, .slice t1 t.ks.length t2][j]?) ∧ Hid (∀ W, P W → ∀ j : Nat, W.cell? ⟨w.heap.size + 1, j, none⟩ = [.int .i64 ga, .int .i64 a.k, .int .i64 a.n, .slice a1 a.ks.length a2][j]?) ∧ Hid (∀ W, P W → ∀ j : Nat, W.cell? ⟨w.heap.size + 1 + 1, j, none⟩ = [.int .i64 gb, .int .i64 b.k, .int .i64 b.n, .slice b1 b.ks.length b2][j]?) ∧ Hid (∀ W, P W → Below w.heap.size w W) :=
    ⟨_, Z, fun W h => h.1.1.2.cell, fun W h => h.1.2.cell, fun W h => h.2.cell, fun W h => h.1.1.1⟩
  have m1 : Hid True := trivial
  have m2 : Hid True := trivial
  have m3 : Hid True := trivial
  have m4 : Hid True := trivial
  have m5 : Hid True := trivial
  have m6 : Hid True := trivial
  have m7 : Hid True := trivial
  have m8 : Hid True := trivial
  go_enter Try.func5, Try.ntmps5
  go_wp2_with (first
    | (go_at_call 21; refine (hGe.out _ (kB.out _ Z.out.here)).mono ?_; rintro e w1 ⟨a5, n5, c5, rfl, hT1, hb1⟩; have Z1 := hid ((Z.out.stays hb1).addT hT1); have HT1 := hid hT1; have xt1 := fun o => kt.out _ (Z1.out.stays (bl_alloc (Below.refl _ _) o)).here.1; clear hb1 hT1)
    | (go_at_call 22; have := m1; refine (hRi.out _ (bl_alloc (kB.out _ Z1.out.here.1) _)).mono ?_; rintro e w2 ⟨rfl, hb2⟩; have Z2 := hid (((Z1.out.stays (bl_alloc (Below.refl _ _) (.cells #[.int .i64 (m : Nat), .int .i64 y.k, .int .i64 y.n, .slice a5 y.ks.length c5] 26))).addA (b := w1.heap.size) (T := 26) (cur := [.int .i64 (m : Nat), .int .i64 y.k, .int .i64 y.n, .slice a5 y.ks.length c5]) ⟨heap_alloc_at _ _⟩).stays hb2); have xt2 := kt.out _ Z2.out.here.1.1; have xs2 := Z2.out.here.2.cell; have xa2 := ka.out _ Z2.out.here.1.1; have xb2 := kb.out _ Z2.out.here.1.1; clear hb2 m1)
    | (go_at_call 23; have := m2; refine (hGn.out _ (kB.out _ Z2.out.here.1.1)).mono ?_; rintro e w3 ⟨p3, q3, rfl, hb3⟩; have Z3 := hid (Z2.out.stays hb3); have xs3 := Z3.out.here.2.cell; have xa3 := ka.out _ Z3.out.here.1.1; have xb3 := kb.out _ Z3.out.here.1.1; clear hb3 m2)
    | (go_at_call 14; have := m4; refine (hMa.out _ (kB.out _ Z3.out.here.1.1)).mono ?_; rintro e v1 ⟨rfl, hv1⟩; have Y1 := hid (Z3.out.stays hv1); have ya1 := ka.out _ Y1.out.here.1.1; have yb1 := kb.out _ Y1.out.here.1.1; clear hv1 m4)
    | (go_at_call 13; refine (hLive.out _).mono ?_; rintro e v4 ⟨rfl, hv4⟩; have HE := hid (bl_tr (kB.out _ Y1.out.here.1.1) hv4); clear hv4))
  go_ret
  exact ⟨rfl, HE.out⟩

set_option maxHeartbeats 16000000 in
set_option maxRecDepth 100000 in
theorem general_BM1 (w : World) (nl : Nat) (ga gb : Int) (t y a b : Tp) (t1 a1 b1 kp lp : Option Addr) (t2 a2 b2 kc lc m : Nat) (keep : List Int) (l : List Tp) (hGe : Hid (∀ wz, Below w.heap.size w wz → Calls Try.prog 21 #[.agg #[.int .i64 t.k, .int .i64 t.n, .slice t1 t.ks.length t2], .slice kp keep.length kc] wz fun e w' => ∃ a5 n5 c5, e = .returned (.agg #[.int .i64 (m : Nat), .int .i64 y.k, .int .i64 y.n, .slice a5 y.ks.length c5]) ∧ TAt w' Any n5 [.int .i64 y.k, .int .i64 y.n, .slice a5 y.ks.length c5] y ∧ Below wz.heap.size wz w')) (hRi : Hid (∀ wz, Below w.heap.size w wz → Calls Try.prog 22 #[.agg #[.int .i64 t.k, .int .i64 t.n, .slice t1 t.ks.length t2]] wz fun e w' => e = .returned (.bool true) ∧ Below wz.heap.size wz w')) (g8 : Nat) (hg8 : ((g8 : Int) == 0) = false) (hGn : Hid (∀ wz, Below w.heap.size w wz → Calls Try.prog 23 #[.agg #[.int .i64 t.k, .int .i64 t.n, .slice t1 t.ks.length t2]] wz fun e w' => ∃ p q, e = .returned (.slice p g8 q) ∧ Below wz.heap.size wz w')) (ml : List Tp) (hMa : Hid (∀ wz, Below w.heap.size w wz → Calls Try.prog 14 #[.agg #[.int .i64 ga, .int .i64 a.k, .int .i64 a.n, .slice a1 a.ks.length a2], .agg #[.int .i64 gb, .int .i64 b.k, .int .i64 b.n, .slice b1 b.ks.length b2]] wz fun e w' => ∃ p c N, e = .returned (.tuple #[.slice p ml.length c, .bool true]) ∧ TAtL w' Any N (.slice p ml.length c) ml ∧ Below wz.heap.size wz w')) (hI2 : Hid (∀ wz p c N, Below w.heap.size w wz → TAtL wz Any N (.slice p ml.length c) ml → Calls Try.prog 10 #[.agg #[.int .i64 ga, .int .i64 a.k, .int .i64 a.n, .slice a1 a.ks.length a2], .slice p ml.length c] wz fun e w' => ∃ a9 n9 c9, e = .returned (.tuple #[.agg #[.int .i64 b.k, .int .i64 b.n, .slice a9 b.ks.length c9], .int .i64 0]) ∧ TAt w' Any n9 [.int .i64 b.k, .int .i64 b.n, .slice a9 b.ks.length c9] b ∧ Below wz.heap.size wz w')) (hSa : Hid (∀ wz a9 n9 c9, Below w.heap.size w wz → TAt wz Any n9 [.int .i64 b.k, .int .i64 b.n, .slice a9 b.ks.length c9] b → Calls Try.prog 26 #[.agg #[.int .i64 b.k, .int .i64 b.n, .slice a9 b.ks.length c9], .agg #[.int .i64 b.k, .int .i64 b.n, .slice b1 b.ks.length b2]] wz fun e w' => e = .returned (.bool true) ∧ Below wz.heap.size wz w')) (hLive : Hid (∀ wz, Calls Try.prog 13 #[] wz fun e w' => e = .returned (.bool true) ∧ Below wz.heap.size wz w')) :
    Calls Try.prog 5 #[.agg #[.int .i64 t.k, .int .i64 t.n, .slice t1 t.ks.length t2], .slice kp keep.length kc, .slice lp l.length lc, .agg #[.int .i64 ga, .int .i64 a.k, .int .i64 a.n, .slice a1 a.ks.length a2], .agg #[.int .i64 gb, .int .i64 b.k, .int .i64 b.n, .slice b1 b.ks.length b2]] w fun e w' => e = .returned (.bool true) ∧ Below w.heap.size w w' := by
  have Z := hid (((st_new w).stays (bl_alloc (bl_alloc (bl_alloc (Below.refl _ _) (.cells #[.int .i64 t.k, .int .i64 t.n, .slice t1 t.ks.length t2] 24)) (.cells #[.int .i64 ga, .int .i64 a.k, .int .i64 a.n, .slice a1 a.ks.length a2] 26)) (.cells #[.int .i64 gb, .int .i64 b.k, .int .i64 b.n, .slice b1 b.ks.length b2] 26))).addA (b := w.heap.size) (T := 24) (cur := [.int .i64 t.k, .int .i64 t.n, .slice t1 t.ks.length t2]) (Arr.stays (Arr.stays ⟨heap_alloc_at _ _⟩ (bl_alloc (Below.refl _ _) _)) (bl_alloc (Below.refl _ _) _)))
  have Z := hid (Z.out.addA (b := w.heap.size + 1) (T := 26) (cur := [.int .i64 ga, .int .i64 a.k, .int .i64 a.n, .slice a1 a.ks.length a2]) (Arr.stays ⟨by have := heap_alloc_at (w.alloc (.cells #[.int .i64 t.k, .int .i64 t.n, .slice t1 t.ks.length t2] 24)) (.cells #[.int .i64 ga, .int .i64 a.k, .int .i64 a.n, .slice a1 a.ks.length a2] 26); rw [size_alloc] at this; exact this⟩ (bl_alloc (Below.refl _ _) _)))
  have Z := hid (Z.out.addA (b := w.heap.size + 1 + 1) (T := 26) (cur := [.int .i64 gb, .int .i64 b.k, .int .i64 b.n, .slice b1 b.ks.length b2]) ⟨by have := heap_alloc_at ((w.alloc (.cells #[.int .i64 t.k, .int .i64 t.n, .slice t1 t.ks.length t2] 24)).alloc (.cells #[.int .i64 ga, .int .i64 a.k, .int .i64 a.n, .slice a1 a.ks.length a2] 26)) (.cells #[.int .i64 gb, .int .i64 b.k, .int .i64 b.n, .slice b1 b.ks.length b2] 26); rw [size_alloc, size_alloc] at this; exact this⟩)
  obtain ⟨P, Z, kt, ka, kb, kB⟩ : ∃ P : World → Prop, Hid (St P (((w.alloc (.cells #[.int .i64 t.k, .int .i64 t.n, .slice t1 t.ks.length t2] 24)).alloc (.cells #[.int .i64 ga, .int .i64 a.k, .int .i64 a.n, .slice a1 a.ks.length a2] 26)).alloc (.cells #[.int .i64 gb, .int .i64 b.k, .int .i64 b.n, .slice b1 b.ks.length b2] 26))) ∧ Hid (∀ W, P W → ∀ j : Nat, W.cell? ⟨w.heap.size, j, none⟩ = [.int .i64 t.k, .int .i64 t.n, .slice t1 t.ks.length t2][j]?) ∧ Hid (∀ W, P W → ∀ j : Nat, W.cell? ⟨w.heap.size + 1, j, none⟩ = [.int .i64 ga, .int .i64 a.k, .int .i64 a.n, .slice a1 a.ks.length a2][j]?) ∧ Hid (∀ W, P W → ∀ j : Nat, W.cell? ⟨w.heap.size + 1 + 1, j, none⟩ = [.int .i64 gb, .int .i64 b.k, .int .i64 b.n, .slice b1 b.ks.length b2][j]?) ∧ Hid (∀ W, P W → Below w.heap.size w W) :=
    ⟨_, Z, fun W h => h.1.1.2.cell, fun W h => h.1.2.cell, fun W h => h.2.cell, fun W h => h.1.1.1⟩
  have m1 : Hid True := trivial
  have m2 : Hid True := trivial
  have m3 : Hid True := trivial
  have m4 : Hid True := trivial
  have m5 : Hid True := trivial
  have m6 : Hid True := trivial
  have m7 : Hid True := trivial
  have m8 : Hid True := trivial
  go_enter Try.func5, Try.ntmps5
  go_wp2_with (first
    | (go_at_call 21; refine (hGe.out _ (kB.out _ Z.out.here)).mono ?_; rintro e w1 ⟨a5, n5, c5, rfl, hT1, hb1⟩; have Z1 := hid ((Z.out.stays hb1).addT hT1); have HT1 := hid hT1; have xt1 := fun o => kt.out _ (Z1.out.stays (bl_alloc (Below.refl _ _) o)).here.1; clear hb1 hT1)
    | (go_at_call 22; have := m1; refine (hRi.out _ (bl_alloc (kB.out _ Z1.out.here.1) _)).mono ?_; rintro e w2 ⟨rfl, hb2⟩; have Z2 := hid (((Z1.out.stays (bl_alloc (Below.refl _ _) (.cells #[.int .i64 (m : Nat), .int .i64 y.k, .int .i64 y.n, .slice a5 y.ks.length c5] 26))).addA (b := w1.heap.size) (T := 26) (cur := [.int .i64 (m : Nat), .int .i64 y.k, .int .i64 y.n, .slice a5 y.ks.length c5]) ⟨heap_alloc_at _ _⟩).stays hb2); have xt2 := kt.out _ Z2.out.here.1.1; have xs2 := Z2.out.here.2.cell; have xa2 := ka.out _ Z2.out.here.1.1; have xb2 := kb.out _ Z2.out.here.1.1; clear hb2 m1)
    | (go_at_call 23; have := m2; refine (hGn.out _ (kB.out _ Z2.out.here.1.1)).mono ?_; rintro e w3 ⟨p3, q3, rfl, hb3⟩; have Z3 := hid (Z2.out.stays hb3); have xs3 := Z3.out.here.2.cell; have xa3 := ka.out _ Z3.out.here.1.1; have xb3 := kb.out _ Z3.out.here.1.1; clear hb3 m2)
    | (go_at_call 14; have := m4; refine (hMa.out _ (kB.out _ Z3.out.here.1.1)).mono ?_; rintro e v1 ⟨p1, q1, N1, rfl, hL1, hv1⟩; have HL1 := hid hL1; clear hL1; have Y1 := hid (Z3.out.stays hv1); have ya1 := ka.out _ Y1.out.here.1.1; have yb1 := kb.out _ Y1.out.here.1.1; clear hv1 m4)
    | (go_at_call 10; have := m5; refine (hI2.out _ _ _ _ (kB.out _ Y1.out.here.1.1) HL1.out).mono ?_; rintro e v2 ⟨a9, n9, c9, rfl, hT9, hv2⟩; have Y2 := hid (Y1.out.stays hv2); have HT9 := hid hT9; have yb2 := kb.out _ (Y2.out.stays (bl_alloc (Below.refl _ _) (.cells #[.int .i64 b.k, .int .i64 b.n, .slice a9 b.ks.length c9] 24))).here.1.1; clear hv2 hT9 m5)
    | (go_at_call 26; have := m6; refine (hSa.out _ _ _ _ (bl_alloc (kB.out _ Y2.out.here.1.1) _) (HT9.out.below (bl_alloc (Below.refl _ _) _))).mono ?_; rintro e v3 ⟨rfl, hv3⟩; have Y3 := hid ((Y2.out.stays (bl_alloc (Below.refl _ _) _)).stays hv3); clear hv3 m6)
    | (go_at_call 13; refine (hLive.out _).mono ?_; rintro e v4 ⟨rfl, hv4⟩; have HE := hid (bl_tr (kB.out _ Y3.out.here.1.1) hv4); clear hv4))
  go_ret
  exact ⟨rfl, HE.out⟩

set_option maxHeartbeats 16000000 in
set_option maxRecDepth 100000 in
theorem general_BM2 (w : World) (nl : Nat) (ga gb : Int) (t y a b : Tp) (t1 a1 b1 kp lp : Option Addr) (t2 a2 b2 kc lc m : Nat) (keep : List Int) (l : List Tp) (hGe : Hid (∀ wz, Below w.heap.size w wz → Calls Try.prog 21 #[.agg #[.int .i64 t.k, .int .i64 t.n, .slice t1 t.ks.length t2], .slice kp keep.length kc] wz fun e w' => ∃ a5 n5 c5, e = .returned (.agg #[.int .i64 (m : Nat), .int .i64 y.k, .int .i64 y.n, .slice a5 y.ks.length c5]) ∧ TAt w' Any n5 [.int .i64 y.k, .int .i64 y.n, .slice a5 y.ks.length c5] y ∧ Below wz.heap.size wz w')) (hRi : Hid (∀ wz, Below w.heap.size w wz → Calls Try.prog 22 #[.agg #[.int .i64 t.k, .int .i64 t.n, .slice t1 t.ks.length t2]] wz fun e w' => e = .returned (.bool true) ∧ Below wz.heap.size wz w')) (g8 : Nat) (hg8 : ((g8 : Int) == 0) = false) (hGn : Hid (∀ wz, Below w.heap.size w wz → Calls Try.prog 23 #[.agg #[.int .i64 t.k, .int .i64 t.n, .slice t1 t.ks.length t2]] wz fun e w' => ∃ p q, e = .returned (.slice p g8 q) ∧ Below wz.heap.size wz w')) (ml : List Tp) (hMa : Hid (∀ wz, Below w.heap.size w wz → Calls Try.prog 14 #[.agg #[.int .i64 ga, .int .i64 a.k, .int .i64 a.n, .slice a1 a.ks.length a2], .agg #[.int .i64 gb, .int .i64 b.k, .int .i64 b.n, .slice b1 b.ks.length b2]] wz fun e w' => ∃ p c N, e = .returned (.tuple #[.slice p ml.length c, .bool true]) ∧ TAtL w' Any N (.slice p ml.length c) ml ∧ Below wz.heap.size wz w')) (hI2 : Hid (∀ wz p c N, Below w.heap.size w wz → TAtL wz Any N (.slice p ml.length c) ml → Calls Try.prog 10 #[.agg #[.int .i64 ga, .int .i64 a.k, .int .i64 a.n, .slice a1 a.ks.length a2], .slice p ml.length c] wz fun e w' => ∃ (a9 : Option Addr) (c9 : Nat), e = .returned (.tuple #[.agg #[.int .i64 0, .int .i64 0, .slice a9 0 c9], .int .i64 3]) ∧ Below wz.heap.size wz w')) (hFi : Hid (∀ wz, Below w.heap.size w wz → Calls Try.prog 27 #[.agg #[.int .i64 b.k, .int .i64 b.n, .slice b1 b.ks.length b2]] wz fun e w' => e = .returned (.bool false) ∧ Below wz.heap.size wz w')) (hLive : Hid (∀ wz, Calls Try.prog 13 #[] wz fun e w' => e = .returned (.bool true) ∧ Below wz.heap.size wz w')) :
    Calls Try.prog 5 #[.agg #[.int .i64 t.k, .int .i64 t.n, .slice t1 t.ks.length t2], .slice kp keep.length kc, .slice lp l.length lc, .agg #[.int .i64 ga, .int .i64 a.k, .int .i64 a.n, .slice a1 a.ks.length a2], .agg #[.int .i64 gb, .int .i64 b.k, .int .i64 b.n, .slice b1 b.ks.length b2]] w fun e w' => e = .returned (.bool true) ∧ Below w.heap.size w w' := by
  have Z := hid (((st_new w).stays (bl_alloc (bl_alloc (bl_alloc (Below.refl _ _) (.cells #[.int .i64 t.k, .int .i64 t.n, .slice t1 t.ks.length t2] 24)) (.cells #[.int .i64 ga, .int .i64 a.k, .int .i64 a.n, .slice a1 a.ks.length a2] 26)) (.cells #[.int .i64 gb, .int .i64 b.k, .int .i64 b.n, .slice b1 b.ks.length b2] 26))).addA (b := w.heap.size) (T := 24) (cur := [.int .i64 t.k, .int .i64 t.n, .slice t1 t.ks.length t2]) (Arr.stays (Arr.stays ⟨heap_alloc_at _ _⟩ (bl_alloc (Below.refl _ _) _)) (bl_alloc (Below.refl _ _) _)))
  have Z := hid (Z.out.addA (b := w.heap.size + 1) (T := 26) (cur := [.int .i64 ga, .int .i64 a.k, .int .i64 a.n, .slice a1 a.ks.length a2]) (Arr.stays ⟨by have := heap_alloc_at (w.alloc (.cells #[.int .i64 t.k, .int .i64 t.n, .slice t1 t.ks.length t2] 24)) (.cells #[.int .i64 ga, .int .i64 a.k, .int .i64 a.n, .slice a1 a.ks.length a2] 26); rw [size_alloc] at this; exact this⟩ (bl_alloc (Below.refl _ _) _)))
  have Z := hid (Z.out.addA (b := w.heap.size + 1 + 1) (T := 26) (cur := [.int .i64 gb, .int .i64 b.k, .int .i64 b.n, .slice b1 b.ks.length b2]) ⟨by have := heap_alloc_at ((w.alloc (.cells #[.int .i64 t.k, .int .i64 t.n, .slice t1 t.ks.length t2] 24)).alloc (.cells #[.int .i64 ga, .int .i64 a.k, .int .i64 a.n, .slice a1 a.ks.length a2] 26)) (.cells #[.int .i64 gb, .int .i64 b.k, .int .i64 b.n, .slice b1 b.ks.length b2] 26); rw [size_alloc, size_alloc] at this; exact this⟩)
  obtain ⟨P, Z, kt, ka, kb, kB⟩ : ∃ P : World → Prop, Hid (St P (((w.alloc (.cells #[.int .i64 t.k, .int .i64 t.n, .slice t1 t.ks.length t2] 24)).alloc (.cells #[.int .i64 ga, .int .i64 a.k, .int .i64 a.n, .slice a1 a.ks.length a2] 26)).alloc (.cells #[.int .i64 gb, .int .i64 b.k, .int .i64 b.n, .slice b1 b.ks.length b2] 26))) ∧ Hid (∀ W, P W → ∀ j : Nat, W.cell? ⟨w.heap.size, j, none⟩ = [.int .i64 t.k, .int .i64 t.n, .slice t1 t.ks.length t2][j]?) ∧ Hid (∀ W, P W → ∀ j : Nat, W.cell? ⟨w.heap.size + 1, j, none⟩ = [.int .i64 ga, .int .i64 a.k, .int .i64 a.n, .slice a1 a.ks.length a2][j]?) ∧ Hid (∀ W, P W → ∀ j : Nat, W.cell? ⟨w.heap.size + 1 + 1, j, none⟩ = [.int .i64 gb, .int .i64 b.k, .int .i64 b.n, .slice b1 b.ks.length b2][j]?) ∧ Hid (∀ W, P W → Below w.heap.size w W) :=
    ⟨_, Z, fun W h => h.1.1.2.cell, fun W h => h.1.2.cell, fun W h => h.2.cell, fun W h => h.1.1.1⟩
  have m1 : Hid True := trivial
  have m2 : Hid True := trivial
  have m3 : Hid True := trivial
  have m4 : Hid True := trivial
  have m5 : Hid True := trivial
  have m6 : Hid True := trivial
  have m7 : Hid True := trivial
  have m8 : Hid True := trivial
  go_enter Try.func5, Try.ntmps5
  go_wp2_with (first
    | (go_at_call 21; refine (hGe.out _ (kB.out _ Z.out.here)).mono ?_; rintro e w1 ⟨a5, n5, c5, rfl, hT1, hb1⟩; have Z1 := hid ((Z.out.stays hb1).addT hT1); have HT1 := hid hT1; have xt1 := fun o => kt.out _ (Z1.out.stays (bl_alloc (Below.refl _ _) o)).here.1; clear hb1 hT1)
    | (go_at_call 22; have := m1; refine (hRi.out _ (bl_alloc (kB.out _ Z1.out.here.1) _)).mono ?_; rintro e w2 ⟨rfl, hb2⟩; have Z2 := hid (((Z1.out.stays (bl_alloc (Below.refl _ _) (.cells #[.int .i64 (m : Nat), .int .i64 y.k, .int .i64 y.n, .slice a5 y.ks.length c5] 26))).addA (b := w1.heap.size) (T := 26) (cur := [.int .i64 (m : Nat), .int .i64 y.k, .int .i64 y.n, .slice a5 y.ks.length c5]) ⟨heap_alloc_at _ _⟩).stays hb2); have xt2 := kt.out _ Z2.out.here.1.1; have xs2 := Z2.out.here.2.cell; have xa2 := ka.out _ Z2.out.here.1.1; have xb2 := kb.out _ Z2.out.here.1.1; clear hb2 m1)
    | (go_at_call 23; have := m2; refine (hGn.out _ (kB.out _ Z2.out.here.1.1)).mono ?_; rintro e w3 ⟨p3, q3, rfl, hb3⟩; have Z3 := hid (Z2.out.stays hb3); have xs3 := Z3.out.here.2.cell; have xa3 := ka.out _ Z3.out.here.1.1; have xb3 := kb.out _ Z3.out.here.1.1; clear hb3 m2)
    | (go_at_call 14; have := m4; refine (hMa.out _ (kB.out _ Z3.out.here.1.1)).mono ?_; rintro e v1 ⟨p1, q1, N1, rfl, hL1, hv1⟩; have HL1 := hid hL1; clear hL1; have Y1 := hid (Z3.out.stays hv1); have ya1 := ka.out _ Y1.out.here.1.1; have yb1 := kb.out _ Y1.out.here.1.1; clear hv1 m4)
    | (go_at_call 10; have := m5; refine (hI2.out _ _ _ _ (kB.out _ Y1.out.here.1.1) HL1.out).mono ?_; rintro e v2 ⟨a9, c9, rfl, hv2⟩; have Y2 := hid (Y1.out.stays hv2); have yb2 := kb.out _ (Y2.out.stays (bl_alloc (Below.refl _ _) (.cells #[.int .i64 0, .int .i64 0, .slice a9 0 c9] 24))).here.1.1; clear hv2 m5)
    | (go_at_call 27; have := m6; refine (hFi.out _ (bl_alloc (kB.out _ Y2.out.here.1.1) _)).mono ?_; rintro e v3 ⟨rfl, hv3⟩; have Y3 := hid ((Y2.out.stays (bl_alloc (Below.refl _ _) _)).stays hv3); clear hv3 m6)
    | (go_at_call 13; refine (hLive.out _).mono ?_; rintro e v4 ⟨rfl, hv4⟩; have HE := hid (bl_tr (kB.out _ Y3.out.here.1.1) hv4); clear hv4))
  go_ret
  exact ⟨rfl, HE.out⟩

set_option maxHeartbeats 16000000 in
set_option maxRecDepth 100000 in
theorem general_C1M0 (w : World) (nl : Nat) (ga gb : Int) (t y a b : Tp) (t1 a1 b1 kp lp : Option Addr) (t2 a2 b2 kc lc m : Nat) (keep : List Int) (l : List Tp) (hGe : Hid (∀ wz, Below w.heap.size w wz → Calls Try.prog 21 #[.agg #[.int .i64 t.k, .int .i64 t.n, .slice t1 t.ks.length t2], .slice kp keep.length kc] wz fun e w' => ∃ a5 n5 c5, e = .returned (.agg #[.int .i64 (m : Nat), .int .i64 y.k, .int .i64 y.n, .slice a5 y.ks.length c5]) ∧ TAt w' Any n5 [.int .i64 y.k, .int .i64 y.n, .slice a5 y.ks.length c5] y ∧ Below wz.heap.size wz w')) (hRi : Hid (∀ wz, Below w.heap.size w wz → Calls Try.prog 22 #[.agg #[.int .i64 t.k, .int .i64 t.n, .slice t1 t.ks.length t2]] wz fun e w' => e = .returned (.bool true) ∧ Below wz.heap.size wz w')) (g8 : Nat) (hGn : Hid (∀ wz, Below w.heap.size w wz → Calls Try.prog 23 #[.agg #[.int .i64 t.k, .int .i64 t.n, .slice t1 t.ks.length t2]] wz fun e w' => ∃ p q, e = .returned (.slice p 0 q) ∧ Below wz.heap.size wz w')) (hRS : Hid (∀ wz a5 n5 c5, TAt wz Any n5 [.int .i64 y.k, .int .i64 y.n, .slice a5 y.ks.length c5] y → Calls Try.prog 24 #[.agg #[.int .i64 (m : Nat), .int .i64 y.k, .int .i64 y.n, .slice a5 y.ks.length c5]] wz fun e w' => e = .returned (.bool true) ∧ Below wz.heap.size wz w')) (hlm : l.length ≤ 1048576) (hLl : Hid (∀ wz, Below w.heap.size w wz → TAtL wz Any nl (.slice lp l.length lc) l)) (hgood : Hid (l.all Tp.right = false)) (x : Tp) (q : Int)  (hIn : Hid (∀ wz a5 n5 c5, Below w.heap.size w wz → TAt wz Any n5 [.int .i64 y.k, .int .i64 y.n, .slice a5 y.ks.length c5] y → Calls Try.prog 10 #[.agg #[.int .i64 (m : Nat), .int .i64 y.k, .int .i64 y.n, .slice a5 y.ks.length c5], .slice lp l.length lc] wz fun e w' => ∃ a6 n6 c6, e = .returned (.tuple #[.agg #[.int .i64 x.k, .int .i64 x.n, .slice a6 x.ks.length c6], .int .i64 q]) ∧ TAt w' Any n6 [.int .i64 x.k, .int .i64 x.n, .slice a6 x.ks.length c6] x ∧ Below wz.heap.size wz w')) (hMa : Hid (∀ wz, Below w.heap.size w wz → Calls Try.prog 14 #[.agg #[.int .i64 ga, .int .i64 a.k, .int .i64 a.n, .slice a1 a.ks.length a2], .agg #[.int .i64 gb, .int .i64 b.k, .int .i64 b.n, .slice b1 b.ks.length b2]] wz fun e w' => e = .returned (.tuple #[.slice none 0 0, .bool false]) ∧ Below wz.heap.size wz w')) (hLive : Hid (∀ wz, Calls Try.prog 13 #[] wz fun e w' => e = .returned (.bool true) ∧ Below wz.heap.size wz w')) :
    Calls Try.prog 5 #[.agg #[.int .i64 t.k, .int .i64 t.n, .slice t1 t.ks.length t2], .slice kp keep.length kc, .slice lp l.length lc, .agg #[.int .i64 ga, .int .i64 a.k, .int .i64 a.n, .slice a1 a.ks.length a2], .agg #[.int .i64 gb, .int .i64 b.k, .int .i64 b.n, .slice b1 b.ks.length b2]] w fun e w' => e = .returned (.bool true) ∧ Below w.heap.size w w' := by
  have Z := hid (((st_new w).stays (bl_alloc (bl_alloc (bl_alloc (Below.refl _ _) (.cells #[.int .i64 t.k, .int .i64 t.n, .slice t1 t.ks.length t2] 24)) (.cells #[.int .i64 ga, .int .i64 a.k, .int .i64 a.n, .slice a1 a.ks.length a2] 26)) (.cells #[.int .i64 gb, .int .i64 b.k, .int .i64 b.n, .slice b1 b.ks.length b2] 26))).addA (b := w.heap.size) (T := 24) (cur := [.int .i64 t.k, .int .i64 t.n, .slice t1 t.ks.length t2]) (Arr.stays (Arr.stays ⟨heap_alloc_at _ _⟩ (bl_alloc (Below.refl _ _) _)) (bl_alloc (Below.refl _ _) _)))
  have Z := hid (Z.out.addA (b := w.heap.size + 1) (T := 26) (cur := [.int .i64 ga, .int .i64 a.k, .int .i64 a.n, .slice a1 a.ks.length a2]) (Arr.stays ⟨by have := heap_alloc_at (w.alloc (.cells #[.int .i64 t.k, .int .i64 t.n, .slice t1 t.ks.length t2] 24)) (.cells #[.int .i64 ga, .int .i64 a.k, .int .i64 a.n, .slice a1 a.ks.length a2] 26); rw [size_alloc] at this; exact this⟩ (bl_alloc (Below.refl _ _) _)))
  have Z := hid (Z.out.addA (b := w.heap.size + 1 + 1) (T := 26) (cur := [.int .i64 gb, .int .i64 b.k, .int .i64 b.n, .slice b1 b.ks.length b2]) ⟨by have := heap_alloc_at ((w.alloc (.cells #[.int .i64 t.k, .int .i64 t.n, .slice t1 t.ks.length t2] 24)).alloc (.cells #[.int .i64 ga, .int .i64 a.k, .int .i64 a.n, .slice a1 a.ks.length a2] 26)) (.cells #[.int .i64 gb, .int .i64 b.k, .int .i64 b.n, .slice b1 b.ks.length b2] 26); rw [size_alloc, size_alloc] at this; exact this⟩)
  obtain ⟨P, Z, kt, ka, kb, kB⟩ : ∃ P : World → Prop, Hid (St P (((w.alloc (.cells #[.int .i64 t.k, .int .i64 t.n, .slice t1 t.ks.length t2] 24)).alloc (.cells #[.int .i64 ga, .int .i64 a.k, .int .i64 a.n, .slice a1 a.ks.length a2] 26)).alloc (.cells #[.int .i64 gb, .int .i64 b.k, .int .i64 b.n, .slice b1 b.ks.length b2] 26))) ∧ Hid (∀ W, P W → ∀ j : Nat, W.cell? ⟨w.heap.size, j, none⟩ = [.int .i64 t.k, .int .i64 t.n, .slice t1 t.ks.length t2][j]?) ∧ Hid (∀ W, P W → ∀ j : Nat, W.cell? ⟨w.heap.size + 1, j, none⟩ = [.int .i64 ga, .int .i64 a.k, .int .i64 a.n, .slice a1 a.ks.length a2][j]?) ∧ Hid (∀ W, P W → ∀ j : Nat, W.cell? ⟨w.heap.size + 1 + 1, j, none⟩ = [.int .i64 gb, .int .i64 b.k, .int .i64 b.n, .slice b1 b.ks.length b2][j]?) ∧ Hid (∀ W, P W → Below w.heap.size w W) :=
    ⟨_, Z, fun W h => h.1.1.2.cell, fun W h => h.1.2.cell, fun W h => h.2.cell, fun W h => h.1.1.1⟩
  have m1 : Hid True := trivial
  have m2 : Hid True := trivial
  have m3 : Hid True := trivial
  have m4 : Hid True := trivial
  have m5 : Hid True := trivial
  have m6 : Hid True := trivial
  have m7 : Hid True := trivial
  have m8 : Hid True := trivial
  go_enter Try.func5, Try.ntmps5
  go_wp2_with (first
    | (go_at_call 21; refine (hGe.out _ (kB.out _ Z.out.here)).mono ?_; rintro e w1 ⟨a5, n5, c5, rfl, hT1, hb1⟩; have Z1 := hid ((Z.out.stays hb1).addT hT1); have HT1 := hid hT1; have xt1 := fun o => kt.out _ (Z1.out.stays (bl_alloc (Below.refl _ _) o)).here.1; clear hb1 hT1)
    | (go_at_call 22; have := m1; refine (hRi.out _ (bl_alloc (kB.out _ Z1.out.here.1) _)).mono ?_; rintro e w2 ⟨rfl, hb2⟩; have Z2 := hid (((Z1.out.stays (bl_alloc (Below.refl _ _) (.cells #[.int .i64 (m : Nat), .int .i64 y.k, .int .i64 y.n, .slice a5 y.ks.length c5] 26))).addA (b := w1.heap.size) (T := 26) (cur := [.int .i64 (m : Nat), .int .i64 y.k, .int .i64 y.n, .slice a5 y.ks.length c5]) ⟨heap_alloc_at _ _⟩).stays hb2); have xt2 := kt.out _ Z2.out.here.1.1; have xs2 := Z2.out.here.2.cell; have xa2 := ka.out _ Z2.out.here.1.1; have xb2 := kb.out _ Z2.out.here.1.1; clear hb2 m1)
    | (go_at_call 23; have := m2; refine (hGn.out _ (kB.out _ Z2.out.here.1.1)).mono ?_; rintro e w3 ⟨p3, q3, rfl, hb3⟩; have Z3 := hid (Z2.out.stays hb3); have xs3 := Z3.out.here.2.cell; have xa3 := ka.out _ Z3.out.here.1.1; have xb3 := kb.out _ Z3.out.here.1.1; clear hb3 m2)
    | (go_at_call 24; have := m3; refine (hRS.out _ _ _ _ Z3.out.here.1.2).mono ?_; rintro e w4 ⟨rfl, hb4⟩; have Z4 := hid (Z3.out.stays hb4); have xs4 := Z4.out.here.2.cell; clear hb4 m3))
  obtain ⟨P4, Y4, kP, k5, k6⟩ : ∃ P4 : World → Prop, Hid (St P4 w4) ∧ Hid (∀ W, P4 W → P W) ∧ Hid (∀ W, P4 W → TAt W Any n5 [.int .i64 y.k, .int .i64 y.n, .slice a5 y.ks.length c5] y) ∧ Hid (∀ W, P4 W → ∀ j : Nat, W.cell? ⟨w1.heap.size, j, none⟩ = [.int .i64 (m : Nat), .int .i64 y.k, .int .i64 y.n, .slice a5 y.ks.length c5][j]?) := ⟨_, Z4, fun W h => h.1.1, fun W h => h.1.2, fun W h => h.2.cell⟩
  clear xt1 xt2 xs2 xa2 xb2 xs3 xa3 xb3 xs4 Z Z1 Z2 Z3 Z4 HT1
  go_loopw [12, 13] (fun v12 v13 wr => ∃ (gd : Bool) (k : Nat), v12 = .bool gd ∧ v13 = .int .i64 k ∧ k ≤ l.length ∧ Hid ((l.take k).all Tp.right = gd) ∧ Hid (St P4 wr)) (fun _ v13 _ => l.length - (intOf v13).toNat)
  case atStart => exact ⟨true, 0, rfl, rfl, Nat.zero_le _, by show _ = _; simp, Y4⟩
  case round =>
    obtain ⟨gd, k, rfl, rfl, hk, hH, hZ⟩ := hrel
    by_cases hlt : k < l.length
    · obtain ⟨e0, he0⟩ : ∃ e0, l[k]? = some e0 := ⟨_, List.getElem?_eq_getElem hlt⟩
      have htk : l.take (k + 1) = l.take k ++ [e0] := by rw [List.take_add_one, he0]; rfl
      cases gd with
      | false =>
        have HY : Hid ((l.take (k + 1)).all Tp.right = false) := by show _ = _; rw [htk, List.all_append, hH.out]; rfl
        clear hH he0 htk
        go_wp2
        go_roundw
        case rel => exact ⟨false, k + 1, rfl, by go_num, by omega, HY, hZ⟩
        case measure => simp [intOf]; omega
      | true =>
        obtain ⟨be, oe, ce, hv, -⟩ := (hLl.out _ (kB.out _ (kP.out _ hZ.out.here))).resolve_right (fun h => by rw [h.1] at hlt; exact absurd hlt (Nat.not_lt_zero _))
        injection hv with e1 e2 e3
        subst e1
        obtain ⟨ve, te, x0, x1, x2, -, -⟩ := (hLl.out _ (kB.out _ (kP.out _ hZ.out.here))).elem he0
        obtain ⟨ae, cE, ee⟩ := te.form
        simp only [List.cons.injEq, and_true, true_and] at ee
        subst ee
        have hQ := hid (Right_any _ _ _ e0 te)
        have HY : Hid ((l.take (k + 1)).all Tp.right = e0.right) := by show _ = _; rw [htk, List.all_append, hH.out]; simp
        generalize e0.right = er at hQ HY
        clear hH he0 htk te e2 e3
        go_wp2_with (go_at_call 22; refine hQ.out.mono ?_; rintro e w6 ⟨rfl, hb6⟩; have Z6 := hid (hZ.out.stays hb6); clear hb6)
        go_roundw
        case rel => exact ⟨er, k + 1, by simp, by go_num, by omega, HY, Z6⟩
        case measure => simp [intOf]; omega
    · obtain rfl : k = l.length := by omega
      have hgd : gd = false := by rw [← hH.out, List.take_length]; exact hgood.out
      subst hgd
      have xs6 := k6.out _ hZ.out.here
      clear hH Y4
      go_wp2_with (go_at_call 10; refine (hIn.out _ _ _ _ (kB.out _ (kP.out _ hZ.out.here)) (k5.out _ hZ.out.here)).mono ?_; rintro e w7 ⟨a6, n6, c6, rfl, hT7, hb7⟩; have Z7 := hid ((hZ.out.stays hb7).addT hT7); clear hb7 hT7)
      obtain ⟨W8, hW8⟩ : ∃ W8, w7.alloc (.cells #[.int .i64 x.k, .int .i64 x.n, .slice a6 x.ks.length c6] 24) = W8 := ⟨_, rfl⟩
      have Z8 := hid ((Z7.out.stays (bl_alloc (Below.refl _ _) (.cells #[.int .i64 x.k, .int .i64 x.n, .slice a6 x.ks.length c6] 24))).addA (b := w7.heap.size) (T := 24) (cur := [.int .i64 x.k, .int .i64 x.n, .slice a6 x.ks.length c6]) ⟨heap_alloc_at _ _⟩)
      rw [hW8] at Z8 ⊢
      obtain ⟨P8, b8, e8, Y8, kP8, k58, k68, k78, k98⟩ : ∃ (P8 : World → Prop) (b8 : Nat), b8 = w7.heap.size ∧ Hid (St P8 W8) ∧ Hid (∀ W, P8 W → P W) ∧ Hid (∀ W, P8 W → TAt W Any n5 [.int .i64 y.k, .int .i64 y.n, .slice a5 y.ks.length c5] y) ∧ Hid (∀ W, P8 W → ∀ j : Nat, W.cell? ⟨w1.heap.size, j, none⟩ = [.int .i64 (m : Nat), .int .i64 y.k, .int .i64 y.n, .slice a5 y.ks.length c5][j]?) ∧ Hid (∀ W, P8 W → TAt W Any n6 [.int .i64 x.k, .int .i64 x.n, .slice a6 x.ks.length c6] x) ∧ Hid (∀ W, P8 W → ∀ j : Nat, W.cell? ⟨b8, j, none⟩ = [.int .i64 x.k, .int .i64 x.n, .slice a6 x.ks.length c6][j]?) := ⟨_, _, rfl, Z8, fun W h => kP.out W h.1.1, fun W h => k5.out W h.1.1, fun W h => k6.out W h.1.1, fun W h => h.1.2, fun W h => h.2.cell⟩
      rw [← e8]
      have mkS : Hid (∀ wz, St P8 wz → (∀ j : Nat, wz.cell? ⟨w1.heap.size, j, none⟩ = [.int .i64 (m : Nat), .int .i64 y.k, .int .i64 y.n, .slice a5 y.ks.length c5][j]?) ∧ (∀ j : Nat, wz.cell? ⟨b8, j, none⟩ = [.int .i64 x.k, .int .i64 x.n, .slice a6 x.ks.length c6][j]?) ∧ St P8 wz) := fun wz h => ⟨k68.out wz h.here, k98.out wz h.here, h⟩
      have hs0 := hid (mkS.out _ (Y8.out.stays (Below.refl _ _).drew))
      clear e8 hW8 Z8 Z7 xs6 hZ
      refine wp_region_held_drew (S := fun wz => (∀ j : Nat, wz.cell? ⟨w1.heap.size, j, none⟩ = [.int .i64 (m : Nat), .int .i64 y.k, .int .i64 y.n, .slice a5 y.ks.length c5][j]?) ∧ (∀ j : Nat, wz.cell? ⟨b8, j, none⟩ = [.int .i64 x.k, .int .i64 x.n, .slice a6 x.ks.length c6][j]?) ∧ St P8 wz) (by kernel_rfl) (hs0.out) (fun hS => ?_)
      refine wpAnyH_take (i := 0) (v := ?_) rfl (by kernel_rfl) (by kernel_rfl) (by kernel_rfl) (fun _ _ _ h => h) (Or.inl ⟨by rfl, ?_⟩) hS ?_
      rotate_left
      · intro wz hz; go_simp; try with_reducible rfl
      try simp only [Act.put, List.setIfInBounds_toArray, List.set_cons_zero, List.set_cons_succ, List.getElem_toArray, List.getElem_cons_succ, List.getElem_cons_zero]
      refine wpAnyH_take (i := 1) (v := ?_) rfl (by kernel_rfl) (by kernel_rfl) (by kernel_rfl) (fun _ _ _ h => h) (Or.inl ⟨by rfl, ?_⟩) hS ?_
      rotate_left
      · intro wz hz; go_simp; try with_reducible rfl
      try simp only [Act.put, List.setIfInBounds_toArray, List.set_cons_zero, List.set_cons_succ, List.getElem_toArray, List.getElem_cons_succ, List.getElem_cons_zero]
      refine wpAnyH_take (i := 2) (v := undef) rfl (by kernel_rfl) (by kernel_rfl) (by kernel_rfl) (fun _ _ _ h => h) (Or.inr ⟨by rfl, rfl⟩) hS ?_
      try simp only [Act.put, List.setIfInBounds_toArray, List.set_cons_zero, List.set_cons_succ, List.getElem_toArray, List.getElem_cons_succ, List.getElem_cons_zero]
      refine wpAnyH_take (i := 3) (v := undef) rfl (by kernel_rfl) (by kernel_rfl) (by kernel_rfl) (fun _ _ _ h => h) (Or.inr ⟨by rfl, rfl⟩) hS ?_
      try simp only [Act.put, List.setIfInBounds_toArray, List.set_cons_zero, List.set_cons_succ, List.getElem_toArray, List.getElem_cons_succ, List.getElem_cons_zero]
      refine wpAnyH_take (i := 4) (v := ?_) rfl (by kernel_rfl) (by kernel_rfl) (by kernel_rfl) (fun _ _ _ h => h) (Or.inl ⟨by rfl, ?_⟩) hS ?_
      rotate_left
      · intro wz hz; go_simp; try with_reducible rfl
      try simp only [Act.put, List.setIfInBounds_toArray, List.set_cons_zero, List.set_cons_succ, List.getElem_toArray, List.getElem_cons_succ, List.getElem_cons_zero]
      refine wpAnyH_take (i := 5) (v := ?_) rfl (by kernel_rfl) (by kernel_rfl) (by kernel_rfl) (fun _ _ _ h => h) (Or.inl ⟨by rfl, ?_⟩) hS ?_
      rotate_left
      · intro wz hz; go_simp; try with_reducible rfl
      try simp only [Act.put, List.setIfInBounds_toArray, List.set_cons_zero, List.set_cons_succ, List.getElem_toArray, List.getElem_cons_succ, List.getElem_cons_zero]
      refine wpAnyH_take (i := 6) (v := undef) rfl (by kernel_rfl) (by kernel_rfl) (by kernel_rfl) (fun _ _ _ h => h) (Or.inr ⟨by rfl, rfl⟩) hS ?_
      try simp only [Act.put, List.setIfInBounds_toArray, List.set_cons_zero, List.set_cons_succ, List.getElem_toArray, List.getElem_cons_succ, List.getElem_cons_zero]
      refine wpAnyH_take (i := 7) (v := undef) rfl (by kernel_rfl) (by kernel_rfl) (by kernel_rfl) (fun _ _ _ h => h) (Or.inr ⟨by rfl, rfl⟩) hS ?_
      try simp only [Act.put, List.setIfInBounds_toArray, List.set_cons_zero, List.set_cons_succ, List.getElem_toArray, List.getElem_cons_succ, List.getElem_cons_zero]
      refine wpAnyH_take (i := 8) (v := undef) rfl (by kernel_rfl) (by kernel_rfl) (by kernel_rfl) (fun _ _ _ h => h) (Or.inr ⟨by rfl, rfl⟩) hS ?_
      try simp only [Act.put, List.setIfInBounds_toArray, List.set_cons_zero, List.set_cons_succ, List.getElem_toArray, List.getElem_cons_succ, List.getElem_cons_zero]
      refine wpAnyH_take (i := 9) (v := undef) rfl (by kernel_rfl) (by kernel_rfl) (by kernel_rfl) (fun _ _ _ h => h) (Or.inr ⟨by rfl, rfl⟩) hS ?_
      try simp only [Act.put, List.setIfInBounds_toArray, List.set_cons_zero, List.set_cons_succ, List.getElem_toArray, List.getElem_cons_succ, List.getElem_cons_zero]
      refine wpAnyH_take (i := 10) (v := ?_) rfl (by kernel_rfl) (by kernel_rfl) (by kernel_rfl) (fun _ _ _ h => h) (Or.inl ⟨by rfl, ?_⟩) hS ?_
      rotate_left
      · intro wz hz; go_simp; try with_reducible rfl
      try simp only [Act.put, List.setIfInBounds_toArray, List.set_cons_zero, List.set_cons_succ, List.getElem_toArray, List.getElem_cons_succ, List.getElem_cons_zero]
      refine wpAnyH_take (i := 11) (v := ?_) rfl (by kernel_rfl) (by kernel_rfl) (by kernel_rfl) (fun _ _ _ h => h) (Or.inl ⟨by rfl, ?_⟩) hS ?_
      rotate_left
      · intro wz hz; go_simp; try with_reducible rfl
      try simp only [Act.put, List.setIfInBounds_toArray, List.set_cons_zero, List.set_cons_succ, List.getElem_toArray, List.getElem_cons_succ, List.getElem_cons_zero]
      refine wpAnyH_take (i := 12) (v := undef) rfl (by kernel_rfl) (by kernel_rfl) (by kernel_rfl) (fun _ _ _ h => h) (Or.inr ⟨by rfl, rfl⟩) hS ?_
      try simp only [Act.put, List.setIfInBounds_toArray, List.set_cons_zero, List.set_cons_succ, List.getElem_toArray, List.getElem_cons_succ, List.getElem_cons_zero]
      refine wpAnyH_take (i := 13) (v := undef) rfl (by kernel_rfl) (by kernel_rfl) (by kernel_rfl) (fun _ _ _ h => h) (Or.inr ⟨by rfl, rfl⟩) hS ?_
      try simp only [Act.put, List.setIfInBounds_toArray, List.set_cons_zero, List.set_cons_succ, List.getElem_toArray, List.getElem_cons_succ, List.getElem_cons_zero]
      refine wpAnyH_take (i := 14) (v := undef) rfl (by kernel_rfl) (by kernel_rfl) (by kernel_rfl) (fun _ _ _ h => h) (Or.inr ⟨by rfl, rfl⟩) hS ?_
      try simp only [Act.put, List.setIfInBounds_toArray, List.set_cons_zero, List.set_cons_succ, List.getElem_toArray, List.getElem_cons_succ, List.getElem_cons_zero]
      refine wpAnyH_take (i := 15) (v := undef) rfl (by kernel_rfl) (by kernel_rfl) (by kernel_rfl) (fun _ _ _ h => h) (Or.inr ⟨by rfl, rfl⟩) hS ?_
      try simp only [Act.put, List.setIfInBounds_toArray, List.set_cons_zero, List.set_cons_succ, List.getElem_toArray, List.getElem_cons_succ, List.getElem_cons_zero]
      refine wpAnyH_take (i := 16) (v := undef) rfl (by kernel_rfl) (by kernel_rfl) (by kernel_rfl) (fun _ _ _ h => h) (Or.inr ⟨by rfl, rfl⟩) hS ?_
      try simp only [Act.put, List.setIfInBounds_toArray, List.set_cons_zero, List.set_cons_succ, List.getElem_toArray, List.getElem_cons_succ, List.getElem_cons_zero]
      refine wpAnyH_take (i := 17) (v := ?_) rfl (by kernel_rfl) (by kernel_rfl) (by kernel_rfl) (fun _ _ _ h => h) (Or.inl ⟨by rfl, ?_⟩) hS ?_
      rotate_left
      · intro wz hz; go_simp; try with_reducible rfl
      try simp only [Act.put, List.setIfInBounds_toArray, List.set_cons_zero, List.set_cons_succ, List.getElem_toArray, List.getElem_cons_succ, List.getElem_cons_zero]
      refine wpAnyH_done (by kernel_rfl) ?_ _
      have HZ0 := hid (st2T hS)
      have HZ := hid (St.mk (P := P8) HZ0.out.here HZ0.out.st)
      clear hS
      have ya0 := ka.out _ (kP8.out _ HZ.out.here)
      have yb0 := kb.out _ (kP8.out _ HZ.out.here)
      have HP := kP8
      go_wp2_with (first
        | (go_at_call 14; have := m4; refine (hMa.out _ (kB.out _ (kP8.out _ HZ.out.here))).mono ?_; rintro e v1 ⟨rfl, hv1⟩; have Y1 := hid (HZ.out.stays hv1); have ya1 := ka.out _ (kP8.out _ Y1.out.here); have yb1 := kb.out _ (kP8.out _ Y1.out.here); clear hv1 m4)
        | (go_at_call 13; refine (hLive.out _).mono ?_; rintro e v4 ⟨rfl, hv4⟩; have HE := hid (bl_tr (kB.out _ (kP8.out _ Y1.out.here)) hv4); clear hv4))
      go_ret
      exact ⟨rfl, HE.out⟩

set_option maxHeartbeats 16000000 in
set_option maxRecDepth 100000 in
theorem general_C1M1 (w : World) (nl : Nat) (ga gb : Int) (t y a b : Tp) (t1 a1 b1 kp lp : Option Addr) (t2 a2 b2 kc lc m : Nat) (keep : List Int) (l : List Tp) (hGe : Hid (∀ wz, Below w.heap.size w wz → Calls Try.prog 21 #[.agg #[.int .i64 t.k, .int .i64 t.n, .slice t1 t.ks.length t2], .slice kp keep.length kc] wz fun e w' => ∃ a5 n5 c5, e = .returned (.agg #[.int .i64 (m : Nat), .int .i64 y.k, .int .i64 y.n, .slice a5 y.ks.length c5]) ∧ TAt w' Any n5 [.int .i64 y.k, .int .i64 y.n, .slice a5 y.ks.length c5] y ∧ Below wz.heap.size wz w')) (hRi : Hid (∀ wz, Below w.heap.size w wz → Calls Try.prog 22 #[.agg #[.int .i64 t.k, .int .i64 t.n, .slice t1 t.ks.length t2]] wz fun e w' => e = .returned (.bool true) ∧ Below wz.heap.size wz w')) (g8 : Nat) (hGn : Hid (∀ wz, Below w.heap.size w wz → Calls Try.prog 23 #[.agg #[.int .i64 t.k, .int .i64 t.n, .slice t1 t.ks.length t2]] wz fun e w' => ∃ p q, e = .returned (.slice p 0 q) ∧ Below wz.heap.size wz w')) (hRS : Hid (∀ wz a5 n5 c5, TAt wz Any n5 [.int .i64 y.k, .int .i64 y.n, .slice a5 y.ks.length c5] y → Calls Try.prog 24 #[.agg #[.int .i64 (m : Nat), .int .i64 y.k, .int .i64 y.n, .slice a5 y.ks.length c5]] wz fun e w' => e = .returned (.bool true) ∧ Below wz.heap.size wz w')) (hlm : l.length ≤ 1048576) (hLl : Hid (∀ wz, Below w.heap.size w wz → TAtL wz Any nl (.slice lp l.length lc) l)) (hgood : Hid (l.all Tp.right = false)) (x : Tp) (q : Int)  (hIn : Hid (∀ wz a5 n5 c5, Below w.heap.size w wz → TAt wz Any n5 [.int .i64 y.k, .int .i64 y.n, .slice a5 y.ks.length c5] y → Calls Try.prog 10 #[.agg #[.int .i64 (m : Nat), .int .i64 y.k, .int .i64 y.n, .slice a5 y.ks.length c5], .slice lp l.length lc] wz fun e w' => ∃ a6 n6 c6, e = .returned (.tuple #[.agg #[.int .i64 x.k, .int .i64 x.n, .slice a6 x.ks.length c6], .int .i64 q]) ∧ TAt w' Any n6 [.int .i64 x.k, .int .i64 x.n, .slice a6 x.ks.length c6] x ∧ Below wz.heap.size wz w')) (ml : List Tp) (hMa : Hid (∀ wz, Below w.heap.size w wz → Calls Try.prog 14 #[.agg #[.int .i64 ga, .int .i64 a.k, .int .i64 a.n, .slice a1 a.ks.length a2], .agg #[.int .i64 gb, .int .i64 b.k, .int .i64 b.n, .slice b1 b.ks.length b2]] wz fun e w' => ∃ p c N, e = .returned (.tuple #[.slice p ml.length c, .bool true]) ∧ TAtL w' Any N (.slice p ml.length c) ml ∧ Below wz.heap.size wz w')) (hI2 : Hid (∀ wz p c N, Below w.heap.size w wz → TAtL wz Any N (.slice p ml.length c) ml → Calls Try.prog 10 #[.agg #[.int .i64 ga, .int .i64 a.k, .int .i64 a.n, .slice a1 a.ks.length a2], .slice p ml.length c] wz fun e w' => ∃ a9 n9 c9, e = .returned (.tuple #[.agg #[.int .i64 b.k, .int .i64 b.n, .slice a9 b.ks.length c9], .int .i64 0]) ∧ TAt w' Any n9 [.int .i64 b.k, .int .i64 b.n, .slice a9 b.ks.length c9] b ∧ Below wz.heap.size wz w')) (hSa : Hid (∀ wz a9 n9 c9, Below w.heap.size w wz → TAt wz Any n9 [.int .i64 b.k, .int .i64 b.n, .slice a9 b.ks.length c9] b → Calls Try.prog 26 #[.agg #[.int .i64 b.k, .int .i64 b.n, .slice a9 b.ks.length c9], .agg #[.int .i64 b.k, .int .i64 b.n, .slice b1 b.ks.length b2]] wz fun e w' => e = .returned (.bool true) ∧ Below wz.heap.size wz w')) (hLive : Hid (∀ wz, Calls Try.prog 13 #[] wz fun e w' => e = .returned (.bool true) ∧ Below wz.heap.size wz w')) :
    Calls Try.prog 5 #[.agg #[.int .i64 t.k, .int .i64 t.n, .slice t1 t.ks.length t2], .slice kp keep.length kc, .slice lp l.length lc, .agg #[.int .i64 ga, .int .i64 a.k, .int .i64 a.n, .slice a1 a.ks.length a2], .agg #[.int .i64 gb, .int .i64 b.k, .int .i64 b.n, .slice b1 b.ks.length b2]] w fun e w' => e = .returned (.bool true) ∧ Below w.heap.size w w' := by
  have Z := hid (((st_new w).stays (bl_alloc (bl_alloc (bl_alloc (Below.refl _ _) (.cells #[.int .i64 t.k, .int .i64 t.n, .slice t1 t.ks.length t2] 24)) (.cells #[.int .i64 ga, .int .i64 a.k, .int .i64 a.n, .slice a1 a.ks.length a2] 26)) (.cells #[.int .i64 gb, .int .i64 b.k, .int .i64 b.n, .slice b1 b.ks.length b2] 26))).addA (b := w.heap.size) (T := 24) (cur := [.int .i64 t.k, .int .i64 t.n, .slice t1 t.ks.length t2]) (Arr.stays (Arr.stays ⟨heap_alloc_at _ _⟩ (bl_alloc (Below.refl _ _) _)) (bl_alloc (Below.refl _ _) _)))
  have Z := hid (Z.out.addA (b := w.heap.size + 1) (T := 26) (cur := [.int .i64 ga, .int .i64 a.k, .int .i64 a.n, .slice a1 a.ks.length a2]) (Arr.stays ⟨by have := heap_alloc_at (w.alloc (.cells #[.int .i64 t.k, .int .i64 t.n, .slice t1 t.ks.length t2] 24)) (.cells #[.int .i64 ga, .int .i64 a.k, .int .i64 a.n, .slice a1 a.ks.length a2] 26); rw [size_alloc] at this; exact this⟩ (bl_alloc (Below.refl _ _) _)))
  have Z := hid (Z.out.addA (b := w.heap.size + 1 + 1) (T := 26) (cur := [.int .i64 gb, .int .i64 b.k, .int .i64 b.n, .slice b1 b.ks.length b2]) ⟨by have := heap_alloc_at ((w.alloc (.cells #[.int .i64 t.k, .int .i64 t.n, .slice t1 t.ks.length t2] 24)).alloc (.cells #[.int .i64 ga, .int .i64 a.k, .int .i64 a.n, .slice a1 a.ks.length a2] 26)) (.cells #[.int .i64 gb, .int .i64 b.k, .int .i64 b.n, .slice b1 b.ks.length b2] 26); rw [size_alloc, size_alloc] at this; exact this⟩)
  obtain ⟨P, Z, kt, ka, kb, kB⟩ : ∃ P : World → Prop, Hid (St P (((w.alloc (.cells #[.int .i64 t.k, .int .i64 t.n, .slice t1 t.ks.length t2] 24)).alloc (.cells #[.int .i64 ga, .int .i64 a.k, .int .i64 a.n, .slice a1 a.ks.length a2] 26)).alloc (.cells #[.int .i64 gb, .int .i64 b.k, .int .i64 b.n, .slice b1 b.ks.length b2] 26))) ∧ Hid (∀ W, P W → ∀ j : Nat, W.cell? ⟨w.heap.size, j, none⟩ = [.int .i64 t.k, .int .i64 t.n, .slice t1 t.ks.length t2][j]?) ∧ Hid (∀ W, P W → ∀ j : Nat, W.cell? ⟨w.heap.size + 1, j, none⟩ = [.int .i64 ga, .int .i64 a.k, .int .i64 a.n, .slice a1 a.ks.length a2][j]?) ∧ Hid (∀ W, P W → ∀ j : Nat, W.cell? ⟨w.heap.size + 1 + 1, j, none⟩ = [.int .i64 gb, .int .i64 b.k, .int .i64 b.n, .slice b1 b.ks.length b2][j]?) ∧ Hid (∀ W, P W → Below w.heap.size w W) :=
    ⟨_, Z, fun W h => h.1.1.2.cell, fun W h => h.1.2.cell, fun W h => h.2.cell, fun W h => h.1.1.1⟩
  have m1 : Hid True := trivial
  have m2 : Hid True := trivial
  have m3 : Hid True := trivial
  have m4 : Hid True := trivial
  have m5 : Hid True := trivial
  have m6 : Hid True := trivial
  have m7 : Hid True := trivial
  have m8 : Hid True := trivial
  go_enter Try.func5, Try.ntmps5
  go_wp2_with (first
    | (go_at_call 21; refine (hGe.out _ (kB.out _ Z.out.here)).mono ?_; rintro e w1 ⟨a5, n5, c5, rfl, hT1, hb1⟩; have Z1 := hid ((Z.out.stays hb1).addT hT1); have HT1 := hid hT1; have xt1 := fun o => kt.out _ (Z1.out.stays (bl_alloc (Below.refl _ _) o)).here.1; clear hb1 hT1)
    | (go_at_call 22; have := m1; refine (hRi.out _ (bl_alloc (kB.out _ Z1.out.here.1) _)).mono ?_; rintro e w2 ⟨rfl, hb2⟩; have Z2 := hid (((Z1.out.stays (bl_alloc (Below.refl _ _) (.cells #[.int .i64 (m : Nat), .int .i64 y.k, .int .i64 y.n, .slice a5 y.ks.length c5] 26))).addA (b := w1.heap.size) (T := 26) (cur := [.int .i64 (m : Nat), .int .i64 y.k, .int .i64 y.n, .slice a5 y.ks.length c5]) ⟨heap_alloc_at _ _⟩).stays hb2); have xt2 := kt.out _ Z2.out.here.1.1; have xs2 := Z2.out.here.2.cell; have xa2 := ka.out _ Z2.out.here.1.1; have xb2 := kb.out _ Z2.out.here.1.1; clear hb2 m1)
    | (go_at_call 23; have := m2; refine (hGn.out _ (kB.out _ Z2.out.here.1.1)).mono ?_; rintro e w3 ⟨p3, q3, rfl, hb3⟩; have Z3 := hid (Z2.out.stays hb3); have xs3 := Z3.out.here.2.cell; have xa3 := ka.out _ Z3.out.here.1.1; have xb3 := kb.out _ Z3.out.here.1.1; clear hb3 m2)
    | (go_at_call 24; have := m3; refine (hRS.out _ _ _ _ Z3.out.here.1.2).mono ?_; rintro e w4 ⟨rfl, hb4⟩; have Z4 := hid (Z3.out.stays hb4); have xs4 := Z4.out.here.2.cell; clear hb4 m3))
  obtain ⟨P4, Y4, kP, k5, k6⟩ : ∃ P4 : World → Prop, Hid (St P4 w4) ∧ Hid (∀ W, P4 W → P W) ∧ Hid (∀ W, P4 W → TAt W Any n5 [.int .i64 y.k, .int .i64 y.n, .slice a5 y.ks.length c5] y) ∧ Hid (∀ W, P4 W → ∀ j : Nat, W.cell? ⟨w1.heap.size, j, none⟩ = [.int .i64 (m : Nat), .int .i64 y.k, .int .i64 y.n, .slice a5 y.ks.length c5][j]?) := ⟨_, Z4, fun W h => h.1.1, fun W h => h.1.2, fun W h => h.2.cell⟩
  clear xt1 xt2 xs2 xa2 xb2 xs3 xa3 xb3 xs4 Z Z1 Z2 Z3 Z4 HT1
  go_loopw [12, 13] (fun v12 v13 wr => ∃ (gd : Bool) (k : Nat), v12 = .bool gd ∧ v13 = .int .i64 k ∧ k ≤ l.length ∧ Hid ((l.take k).all Tp.right = gd) ∧ Hid (St P4 wr)) (fun _ v13 _ => l.length - (intOf v13).toNat)
  case atStart => exact ⟨true, 0, rfl, rfl, Nat.zero_le _, by show _ = _; simp, Y4⟩
  case round =>
    obtain ⟨gd, k, rfl, rfl, hk, hH, hZ⟩ := hrel
    by_cases hlt : k < l.length
    · obtain ⟨e0, he0⟩ : ∃ e0, l[k]? = some e0 := ⟨_, List.getElem?_eq_getElem hlt⟩
      have htk : l.take (k + 1) = l.take k ++ [e0] := by rw [List.take_add_one, he0]; rfl
      cases gd with
      | false =>
        have HY : Hid ((l.take (k + 1)).all Tp.right = false) := by show _ = _; rw [htk, List.all_append, hH.out]; rfl
        clear hH he0 htk
        go_wp2
        go_roundw
        case rel => exact ⟨false, k + 1, rfl, by go_num, by omega, HY, hZ⟩
        case measure => simp [intOf]; omega
      | true =>
        obtain ⟨be, oe, ce, hv, -⟩ := (hLl.out _ (kB.out _ (kP.out _ hZ.out.here))).resolve_right (fun h => by rw [h.1] at hlt; exact absurd hlt (Nat.not_lt_zero _))
        injection hv with e1 e2 e3
        subst e1
        obtain ⟨ve, te, x0, x1, x2, -, -⟩ := (hLl.out _ (kB.out _ (kP.out _ hZ.out.here))).elem he0
        obtain ⟨ae, cE, ee⟩ := te.form
        simp only [List.cons.injEq, and_true, true_and] at ee
        subst ee
        have hQ := hid (Right_any _ _ _ e0 te)
        have HY : Hid ((l.take (k + 1)).all Tp.right = e0.right) := by show _ = _; rw [htk, List.all_append, hH.out]; simp
        generalize e0.right = er at hQ HY
        clear hH he0 htk te e2 e3
        go_wp2_with (go_at_call 22; refine hQ.out.mono ?_; rintro e w6 ⟨rfl, hb6⟩; have Z6 := hid (hZ.out.stays hb6); clear hb6)
        go_roundw
        case rel => exact ⟨er, k + 1, by simp, by go_num, by omega, HY, Z6⟩
        case measure => simp [intOf]; omega
    · obtain rfl : k = l.length := by omega
      have hgd : gd = false := by rw [← hH.out, List.take_length]; exact hgood.out
      subst hgd
      have xs6 := k6.out _ hZ.out.here
      clear hH Y4
      go_wp2_with (go_at_call 10; refine (hIn.out _ _ _ _ (kB.out _ (kP.out _ hZ.out.here)) (k5.out _ hZ.out.here)).mono ?_; rintro e w7 ⟨a6, n6, c6, rfl, hT7, hb7⟩; have Z7 := hid ((hZ.out.stays hb7).addT hT7); clear hb7 hT7)
      obtain ⟨W8, hW8⟩ : ∃ W8, w7.alloc (.cells #[.int .i64 x.k, .int .i64 x.n, .slice a6 x.ks.length c6] 24) = W8 := ⟨_, rfl⟩
      have Z8 := hid ((Z7.out.stays (bl_alloc (Below.refl _ _) (.cells #[.int .i64 x.k, .int .i64 x.n, .slice a6 x.ks.length c6] 24))).addA (b := w7.heap.size) (T := 24) (cur := [.int .i64 x.k, .int .i64 x.n, .slice a6 x.ks.length c6]) ⟨heap_alloc_at _ _⟩)
      rw [hW8] at Z8 ⊢
      obtain ⟨P8, b8, e8, Y8, kP8, k58, k68, k78, k98⟩ : ∃ (P8 : World → Prop) (b8 : Nat), b8 = w7.heap.size ∧ Hid (St P8 W8) ∧ Hid (∀ W, P8 W → P W) ∧ Hid (∀ W, P8 W → TAt W Any n5 [.int .i64 y.k, .int .i64 y.n, .slice a5 y.ks.length c5] y) ∧ Hid (∀ W, P8 W → ∀ j : Nat, W.cell? ⟨w1.heap.size, j, none⟩ = [.int .i64 (m : Nat), .int .i64 y.k, .int .i64 y.n, .slice a5 y.ks.length c5][j]?) ∧ Hid (∀ W, P8 W → TAt W Any n6 [.int .i64 x.k, .int .i64 x.n, .slice a6 x.ks.length c6] x) ∧ Hid (∀ W, P8 W → ∀ j : Nat, W.cell? ⟨b8, j, none⟩ = [.int .i64 x.k, .int .i64 x.n, .slice a6 x.ks.length c6][j]?) := ⟨_, _, rfl, Z8, fun W h => kP.out W h.1.1, fun W h => k5.out W h.1.1, fun W h => k6.out W h.1.1, fun W h => h.1.2, fun W h => h.2.cell⟩
      rw [← e8]
      have mkS : Hid (∀ wz, St P8 wz → (∀ j : Nat, wz.cell? ⟨w1.heap.size, j, none⟩ = [.int .i64 (m : Nat), .int .i64 y.k, .int .i64 y.n, .slice a5 y.ks.length c5][j]?) ∧ (∀ j : Nat, wz.cell? ⟨b8, j, none⟩ = [.int .i64 x.k, .int .i64 x.n, .slice a6 x.ks.length c6][j]?) ∧ St P8 wz) := fun wz h => ⟨k68.out wz h.here, k98.out wz h.here, h⟩
      have hs0 := hid (mkS.out _ (Y8.out.stays (Below.refl _ _).drew))
      clear e8 hW8 Z8 Z7 xs6 hZ
      refine wp_region_held_drew (S := fun wz => (∀ j : Nat, wz.cell? ⟨w1.heap.size, j, none⟩ = [.int .i64 (m : Nat), .int .i64 y.k, .int .i64 y.n, .slice a5 y.ks.length c5][j]?) ∧ (∀ j : Nat, wz.cell? ⟨b8, j, none⟩ = [.int .i64 x.k, .int .i64 x.n, .slice a6 x.ks.length c6][j]?) ∧ St P8 wz) (by kernel_rfl) (hs0.out) (fun hS => ?_)
      refine wpAnyH_take (i := 0) (v := ?_) rfl (by kernel_rfl) (by kernel_rfl) (by kernel_rfl) (fun _ _ _ h => h) (Or.inl ⟨by rfl, ?_⟩) hS ?_
      rotate_left
      · intro wz hz; go_simp; try with_reducible rfl
      try simp only [Act.put, List.setIfInBounds_toArray, List.set_cons_zero, List.set_cons_succ, List.getElem_toArray, List.getElem_cons_succ, List.getElem_cons_zero]
      refine wpAnyH_take (i := 1) (v := ?_) rfl (by kernel_rfl) (by kernel_rfl) (by kernel_rfl) (fun _ _ _ h => h) (Or.inl ⟨by rfl, ?_⟩) hS ?_
      rotate_left
      · intro wz hz; go_simp; try with_reducible rfl
      try simp only [Act.put, List.setIfInBounds_toArray, List.set_cons_zero, List.set_cons_succ, List.getElem_toArray, List.getElem_cons_succ, List.getElem_cons_zero]
      refine wpAnyH_take (i := 2) (v := undef) rfl (by kernel_rfl) (by kernel_rfl) (by kernel_rfl) (fun _ _ _ h => h) (Or.inr ⟨by rfl, rfl⟩) hS ?_
      try simp only [Act.put, List.setIfInBounds_toArray, List.set_cons_zero, List.set_cons_succ, List.getElem_toArray, List.getElem_cons_succ, List.getElem_cons_zero]
      refine wpAnyH_take (i := 3) (v := undef) rfl (by kernel_rfl) (by kernel_rfl) (by kernel_rfl) (fun _ _ _ h => h) (Or.inr ⟨by rfl, rfl⟩) hS ?_
      try simp only [Act.put, List.setIfInBounds_toArray, List.set_cons_zero, List.set_cons_succ, List.getElem_toArray, List.getElem_cons_succ, List.getElem_cons_zero]
      refine wpAnyH_take (i := 4) (v := ?_) rfl (by kernel_rfl) (by kernel_rfl) (by kernel_rfl) (fun _ _ _ h => h) (Or.inl ⟨by rfl, ?_⟩) hS ?_
      rotate_left
      · intro wz hz; go_simp; try with_reducible rfl
      try simp only [Act.put, List.setIfInBounds_toArray, List.set_cons_zero, List.set_cons_succ, List.getElem_toArray, List.getElem_cons_succ, List.getElem_cons_zero]
      refine wpAnyH_take (i := 5) (v := ?_) rfl (by kernel_rfl) (by kernel_rfl) (by kernel_rfl) (fun _ _ _ h => h) (Or.inl ⟨by rfl, ?_⟩) hS ?_
      rotate_left
      · intro wz hz; go_simp; try with_reducible rfl
      try simp only [Act.put, List.setIfInBounds_toArray, List.set_cons_zero, List.set_cons_succ, List.getElem_toArray, List.getElem_cons_succ, List.getElem_cons_zero]
      refine wpAnyH_take (i := 6) (v := undef) rfl (by kernel_rfl) (by kernel_rfl) (by kernel_rfl) (fun _ _ _ h => h) (Or.inr ⟨by rfl, rfl⟩) hS ?_
      try simp only [Act.put, List.setIfInBounds_toArray, List.set_cons_zero, List.set_cons_succ, List.getElem_toArray, List.getElem_cons_succ, List.getElem_cons_zero]
      refine wpAnyH_take (i := 7) (v := undef) rfl (by kernel_rfl) (by kernel_rfl) (by kernel_rfl) (fun _ _ _ h => h) (Or.inr ⟨by rfl, rfl⟩) hS ?_
      try simp only [Act.put, List.setIfInBounds_toArray, List.set_cons_zero, List.set_cons_succ, List.getElem_toArray, List.getElem_cons_succ, List.getElem_cons_zero]
      refine wpAnyH_take (i := 8) (v := undef) rfl (by kernel_rfl) (by kernel_rfl) (by kernel_rfl) (fun _ _ _ h => h) (Or.inr ⟨by rfl, rfl⟩) hS ?_
      try simp only [Act.put, List.setIfInBounds_toArray, List.set_cons_zero, List.set_cons_succ, List.getElem_toArray, List.getElem_cons_succ, List.getElem_cons_zero]
      refine wpAnyH_take (i := 9) (v := undef) rfl (by kernel_rfl) (by kernel_rfl) (by kernel_rfl) (fun _ _ _ h => h) (Or.inr ⟨by rfl, rfl⟩) hS ?_
      try simp only [Act.put, List.setIfInBounds_toArray, List.set_cons_zero, List.set_cons_succ, List.getElem_toArray, List.getElem_cons_succ, List.getElem_cons_zero]
      refine wpAnyH_take (i := 10) (v := ?_) rfl (by kernel_rfl) (by kernel_rfl) (by kernel_rfl) (fun _ _ _ h => h) (Or.inl ⟨by rfl, ?_⟩) hS ?_
      rotate_left
      · intro wz hz; go_simp; try with_reducible rfl
      try simp only [Act.put, List.setIfInBounds_toArray, List.set_cons_zero, List.set_cons_succ, List.getElem_toArray, List.getElem_cons_succ, List.getElem_cons_zero]
      refine wpAnyH_take (i := 11) (v := ?_) rfl (by kernel_rfl) (by kernel_rfl) (by kernel_rfl) (fun _ _ _ h => h) (Or.inl ⟨by rfl, ?_⟩) hS ?_
      rotate_left
      · intro wz hz; go_simp; try with_reducible rfl
      try simp only [Act.put, List.setIfInBounds_toArray, List.set_cons_zero, List.set_cons_succ, List.getElem_toArray, List.getElem_cons_succ, List.getElem_cons_zero]
      refine wpAnyH_take (i := 12) (v := undef) rfl (by kernel_rfl) (by kernel_rfl) (by kernel_rfl) (fun _ _ _ h => h) (Or.inr ⟨by rfl, rfl⟩) hS ?_
      try simp only [Act.put, List.setIfInBounds_toArray, List.set_cons_zero, List.set_cons_succ, List.getElem_toArray, List.getElem_cons_succ, List.getElem_cons_zero]
      refine wpAnyH_take (i := 13) (v := undef) rfl (by kernel_rfl) (by kernel_rfl) (by kernel_rfl) (fun _ _ _ h => h) (Or.inr ⟨by rfl, rfl⟩) hS ?_
      try simp only [Act.put, List.setIfInBounds_toArray, List.set_cons_zero, List.set_cons_succ, List.getElem_toArray, List.getElem_cons_succ, List.getElem_cons_zero]
      refine wpAnyH_take (i := 14) (v := undef) rfl (by kernel_rfl) (by kernel_rfl) (by kernel_rfl) (fun _ _ _ h => h) (Or.inr ⟨by rfl, rfl⟩) hS ?_
      try simp only [Act.put, List.setIfInBounds_toArray, List.set_cons_zero, List.set_cons_succ, List.getElem_toArray, List.getElem_cons_succ, List.getElem_cons_zero]
      refine wpAnyH_take (i := 15) (v := undef) rfl (by kernel_rfl) (by kernel_rfl) (by kernel_rfl) (fun _ _ _ h => h) (Or.inr ⟨by rfl, rfl⟩) hS ?_
      try simp only [Act.put, List.setIfInBounds_toArray, List.set_cons_zero, List.set_cons_succ, List.getElem_toArray, List.getElem_cons_succ, List.getElem_cons_zero]
      refine wpAnyH_take (i := 16) (v := undef) rfl (by kernel_rfl) (by kernel_rfl) (by kernel_rfl) (fun _ _ _ h => h) (Or.inr ⟨by rfl, rfl⟩) hS ?_
      try simp only [Act.put, List.setIfInBounds_toArray, List.set_cons_zero, List.set_cons_succ, List.getElem_toArray, List.getElem_cons_succ, List.getElem_cons_zero]
      refine wpAnyH_take (i := 17) (v := ?_) rfl (by kernel_rfl) (by kernel_rfl) (by kernel_rfl) (fun _ _ _ h => h) (Or.inl ⟨by rfl, ?_⟩) hS ?_
      rotate_left
      · intro wz hz; go_simp; try with_reducible rfl
      try simp only [Act.put, List.setIfInBounds_toArray, List.set_cons_zero, List.set_cons_succ, List.getElem_toArray, List.getElem_cons_succ, List.getElem_cons_zero]
      refine wpAnyH_done (by kernel_rfl) ?_ _
      have HZ0 := hid (st2T hS)
      have HZ := hid (St.mk (P := P8) HZ0.out.here HZ0.out.st)
      clear hS
      have ya0 := ka.out _ (kP8.out _ HZ.out.here)
      have yb0 := kb.out _ (kP8.out _ HZ.out.here)
      have HP := kP8
      go_wp2_with (first
        | (go_at_call 14; have := m4; refine (hMa.out _ (kB.out _ (kP8.out _ HZ.out.here))).mono ?_; rintro e v1 ⟨p1, q1, N1, rfl, hL1, hv1⟩; have HL1 := hid hL1; clear hL1; have Y1 := hid (HZ.out.stays hv1); have ya1 := ka.out _ (kP8.out _ Y1.out.here); have yb1 := kb.out _ (kP8.out _ Y1.out.here); clear hv1 m4)
        | (go_at_call 10; have := m5; refine (hI2.out _ _ _ _ (kB.out _ (kP8.out _ Y1.out.here)) HL1.out).mono ?_; rintro e v2 ⟨a9, n9, c9, rfl, hT9, hv2⟩; have Y2 := hid (Y1.out.stays hv2); have HT9 := hid hT9; have yb2 := kb.out _ (kP8.out _ (Y2.out.stays (bl_alloc (Below.refl _ _) (.cells #[.int .i64 b.k, .int .i64 b.n, .slice a9 b.ks.length c9] 24))).here); clear hv2 hT9 m5)
        | (go_at_call 26; have := m6; refine (hSa.out _ _ _ _ (bl_alloc (kB.out _ (kP8.out _ Y2.out.here)) _) (HT9.out.below (bl_alloc (Below.refl _ _) _))).mono ?_; rintro e v3 ⟨rfl, hv3⟩; have Y3 := hid ((Y2.out.stays (bl_alloc (Below.refl _ _) _)).stays hv3); clear hv3 m6)
        | (go_at_call 13; refine (hLive.out _).mono ?_; rintro e v4 ⟨rfl, hv4⟩; have HE := hid (bl_tr (kB.out _ (kP8.out _ Y3.out.here)) hv4); clear hv4))
      go_ret
      exact ⟨rfl, HE.out⟩

set_option maxHeartbeats 16000000 in
set_option maxRecDepth 100000 in
theorem general_C1M2 (w : World) (nl : Nat) (ga gb : Int) (t y a b : Tp) (t1 a1 b1 kp lp : Option Addr) (t2 a2 b2 kc lc m : Nat) (keep : List Int) (l : List Tp) (hGe : Hid (∀ wz, Below w.heap.size w wz → Calls Try.prog 21 #[.agg #[.int .i64 t.k, .int .i64 t.n, .slice t1 t.ks.length t2], .slice kp keep.length kc] wz fun e w' => ∃ a5 n5 c5, e = .returned (.agg #[.int .i64 (m : Nat), .int .i64 y.k, .int .i64 y.n, .slice a5 y.ks.length c5]) ∧ TAt w' Any n5 [.int .i64 y.k, .int .i64 y.n, .slice a5 y.ks.length c5] y ∧ Below wz.heap.size wz w')) (hRi : Hid (∀ wz, Below w.heap.size w wz → Calls Try.prog 22 #[.agg #[.int .i64 t.k, .int .i64 t.n, .slice t1 t.ks.length t2]] wz fun e w' => e = .returned (.bool true) ∧ Below wz.heap.size wz w')) (g8 : Nat) (hGn : Hid (∀ wz, Below w.heap.size w wz → Calls Try.prog 23 #[.agg #[.int .i64 t.k, .int .i64 t.n, .slice t1 t.ks.length t2]] wz fun e w' => ∃ p q, e = .returned (.slice p 0 q) ∧ Below wz.heap.size wz w')) (hRS : Hid (∀ wz a5 n5 c5, TAt wz Any n5 [.int .i64 y.k, .int .i64 y.n, .slice a5 y.ks.length c5] y → Calls Try.prog 24 #[.agg #[.int .i64 (m : Nat), .int .i64 y.k, .int .i64 y.n, .slice a5 y.ks.length c5]] wz fun e w' => e = .returned (.bool true) ∧ Below wz.heap.size wz w')) (hlm : l.length ≤ 1048576) (hLl : Hid (∀ wz, Below w.heap.size w wz → TAtL wz Any nl (.slice lp l.length lc) l)) (hgood : Hid (l.all Tp.right = false)) (x : Tp) (q : Int)  (hIn : Hid (∀ wz a5 n5 c5, Below w.heap.size w wz → TAt wz Any n5 [.int .i64 y.k, .int .i64 y.n, .slice a5 y.ks.length c5] y → Calls Try.prog 10 #[.agg #[.int .i64 (m : Nat), .int .i64 y.k, .int .i64 y.n, .slice a5 y.ks.length c5], .slice lp l.length lc] wz fun e w' => ∃ a6 n6 c6, e = .returned (.tuple #[.agg #[.int .i64 x.k, .int .i64 x.n, .slice a6 x.ks.length c6], .int .i64 q]) ∧ TAt w' Any n6 [.int .i64 x.k, .int .i64 x.n, .slice a6 x.ks.length c6] x ∧ Below wz.heap.size wz w')) (ml : List Tp) (hMa : Hid (∀ wz, Below w.heap.size w wz → Calls Try.prog 14 #[.agg #[.int .i64 ga, .int .i64 a.k, .int .i64 a.n, .slice a1 a.ks.length a2], .agg #[.int .i64 gb, .int .i64 b.k, .int .i64 b.n, .slice b1 b.ks.length b2]] wz fun e w' => ∃ p c N, e = .returned (.tuple #[.slice p ml.length c, .bool true]) ∧ TAtL w' Any N (.slice p ml.length c) ml ∧ Below wz.heap.size wz w')) (hI2 : Hid (∀ wz p c N, Below w.heap.size w wz → TAtL wz Any N (.slice p ml.length c) ml → Calls Try.prog 10 #[.agg #[.int .i64 ga, .int .i64 a.k, .int .i64 a.n, .slice a1 a.ks.length a2], .slice p ml.length c] wz fun e w' => ∃ (a9 : Option Addr) (c9 : Nat), e = .returned (.tuple #[.agg #[.int .i64 0, .int .i64 0, .slice a9 0 c9], .int .i64 3]) ∧ Below wz.heap.size wz w')) (hFi : Hid (∀ wz, Below w.heap.size w wz → Calls Try.prog 27 #[.agg #[.int .i64 b.k, .int .i64 b.n, .slice b1 b.ks.length b2]] wz fun e w' => e = .returned (.bool false) ∧ Below wz.heap.size wz w')) (hLive : Hid (∀ wz, Calls Try.prog 13 #[] wz fun e w' => e = .returned (.bool true) ∧ Below wz.heap.size wz w')) :
    Calls Try.prog 5 #[.agg #[.int .i64 t.k, .int .i64 t.n, .slice t1 t.ks.length t2], .slice kp keep.length kc, .slice lp l.length lc, .agg #[.int .i64 ga, .int .i64 a.k, .int .i64 a.n, .slice a1 a.ks.length a2], .agg #[.int .i64 gb, .int .i64 b.k, .int .i64 b.n, .slice b1 b.ks.length b2]] w fun e w' => e = .returned (.bool true) ∧ Below w.heap.size w w' := by
  have Z := hid (((st_new w).stays (bl_alloc (bl_alloc (bl_alloc (Below.refl _ _) (.cells #[.int .i64 t.k, .int .i64 t.n, .slice t1 t.ks.length t2] 24)) (.cells #[.int .i64 ga, .int .i64 a.k, .int .i64 a.n, .slice a1 a.ks.length a2] 26)) (.cells #[.int .i64 gb, .int .i64 b.k, .int .i64 b.n, .slice b1 b.ks.length b2] 26))).addA (b := w.heap.size) (T := 24) (cur := [.int .i64 t.k, .int .i64 t.n, .slice t1 t.ks.length t2]) (Arr.stays (Arr.stays ⟨heap_alloc_at _ _⟩ (bl_alloc (Below.refl _ _) _)) (bl_alloc (Below.refl _ _) _)))
  have Z := hid (Z.out.addA (b := w.heap.size + 1) (T := 26) (cur := [.int .i64 ga, .int .i64 a.k, .int .i64 a.n, .slice a1 a.ks.length a2]) (Arr.stays ⟨by have := heap_alloc_at (w.alloc (.cells #[.int .i64 t.k, .int .i64 t.n, .slice t1 t.ks.length t2] 24)) (.cells #[.int .i64 ga, .int .i64 a.k, .int .i64 a.n, .slice a1 a.ks.length a2] 26); rw [size_alloc] at this; exact this⟩ (bl_alloc (Below.refl _ _) _)))
  have Z := hid (Z.out.addA (b := w.heap.size + 1 + 1) (T := 26) (cur := [.int .i64 gb, .int .i64 b.k, .int .i64 b.n, .slice b1 b.ks.length b2]) ⟨by have := heap_alloc_at ((w.alloc (.cells #[.int .i64 t.k, .int .i64 t.n, .slice t1 t.ks.length t2] 24)).alloc (.cells #[.int .i64 ga, .int .i64 a.k, .int .i64 a.n, .slice a1 a.ks.length a2] 26)) (.cells #[.int .i64 gb, .int .i64 b.k, .int .i64 b.n, .slice b1 b.ks.length b2] 26); rw [size_alloc, size_alloc] at this; exact this⟩)
  obtain ⟨P, Z, kt, ka, kb, kB⟩ : ∃ P : World → Prop, Hid (St P (((w.alloc (.cells #[.int .i64 t.k, .int .i64 t.n, .slice t1 t.ks.length t2] 24)).alloc (.cells #[.int .i64 ga, .int .i64 a.k, .int .i64 a.n, .slice a1 a.ks.length a2] 26)).alloc (.cells #[.int .i64 gb, .int .i64 b.k, .int .i64 b.n, .slice b1 b.ks.length b2] 26))) ∧ Hid (∀ W, P W → ∀ j : Nat, W.cell? ⟨w.heap.size, j, none⟩ = [.int .i64 t.k, .int .i64 t.n, .slice t1 t.ks.length t2][j]?) ∧ Hid (∀ W, P W → ∀ j : Nat, W.cell? ⟨w.heap.size + 1, j, none⟩ = [.int .i64 ga, .int .i64 a.k, .int .i64 a.n, .slice a1 a.ks.length a2][j]?) ∧ Hid (∀ W, P W → ∀ j : Nat, W.cell? ⟨w.heap.size + 1 + 1, j, none⟩ = [.int .i64 gb, .int .i64 b.k, .int .i64 b.n, .slice b1 b.ks.length b2][j]?) ∧ Hid (∀ W, P W → Below w.heap.size w W) :=
    ⟨_, Z, fun W h => h.1.1.2.cell, fun W h => h.1.2.cell, fun W h => h.2.cell, fun W h => h.1.1.1⟩
  have m1 : Hid True := trivial
  have m2 : Hid True := trivial
  have m3 : Hid True := trivial
  have m4 : Hid True := trivial
  have m5 : Hid True := trivial
  have m6 : Hid True := trivial
  have m7 : Hid True := trivial
  have m8 : Hid True := trivial
  go_enter Try.func5, Try.ntmps5
  go_wp2_with (first
    | (go_at_call 21; refine (hGe.out _ (kB.out _ Z.out.here)).mono ?_; rintro e w1 ⟨a5, n5, c5, rfl, hT1, hb1⟩; have Z1 := hid ((Z.out.stays hb1).addT hT1); have HT1 := hid hT1; have xt1 := fun o => kt.out _ (Z1.out.stays (bl_alloc (Below.refl _ _) o)).here.1; clear hb1 hT1)
    | (go_at_call 22; have := m1; refine (hRi.out _ (bl_alloc (kB.out _ Z1.out.here.1) _)).mono ?_; rintro e w2 ⟨rfl, hb2⟩; have Z2 := hid (((Z1.out.stays (bl_alloc (Below.refl _ _) (.cells #[.int .i64 (m : Nat), .int .i64 y.k, .int .i64 y.n, .slice a5 y.ks.length c5] 26))).addA (b := w1.heap.size) (T := 26) (cur := [.int .i64 (m : Nat), .int .i64 y.k, .int .i64 y.n, .slice a5 y.ks.length c5]) ⟨heap_alloc_at _ _⟩).stays hb2); have xt2 := kt.out _ Z2.out.here.1.1; have xs2 := Z2.out.here.2.cell; have xa2 := ka.out _ Z2.out.here.1.1; have xb2 := kb.out _ Z2.out.here.1.1; clear hb2 m1)
    | (go_at_call 23; have := m2; refine (hGn.out _ (kB.out _ Z2.out.here.1.1)).mono ?_; rintro e w3 ⟨p3, q3, rfl, hb3⟩; have Z3 := hid (Z2.out.stays hb3); have xs3 := Z3.out.here.2.cell; have xa3 := ka.out _ Z3.out.here.1.1; have xb3 := kb.out _ Z3.out.here.1.1; clear hb3 m2)
    | (go_at_call 24; have := m3; refine (hRS.out _ _ _ _ Z3.out.here.1.2).mono ?_; rintro e w4 ⟨rfl, hb4⟩; have Z4 := hid (Z3.out.stays hb4); have xs4 := Z4.out.here.2.cell; clear hb4 m3))
  obtain ⟨P4, Y4, kP, k5, k6⟩ : ∃ P4 : World → Prop, Hid (St P4 w4) ∧ Hid (∀ W, P4 W → P W) ∧ Hid (∀ W, P4 W → TAt W Any n5 [.int .i64 y.k, .int .i64 y.n, .slice a5 y.ks.length c5] y) ∧ Hid (∀ W, P4 W → ∀ j : Nat, W.cell? ⟨w1.heap.size, j, none⟩ = [.int .i64 (m : Nat), .int .i64 y.k, .int .i64 y.n, .slice a5 y.ks.length c5][j]?) := ⟨_, Z4, fun W h => h.1.1, fun W h => h.1.2, fun W h => h.2.cell⟩
  clear xt1 xt2 xs2 xa2 xb2 xs3 xa3 xb3 xs4 Z Z1 Z2 Z3 Z4 HT1
  go_loopw [12, 13] (fun v12 v13 wr => ∃ (gd : Bool) (k : Nat), v12 = .bool gd ∧ v13 = .int .i64 k ∧ k ≤ l.length ∧ Hid ((l.take k).all Tp.right = gd) ∧ Hid (St P4 wr)) (fun _ v13 _ => l.length - (intOf v13).toNat)
  case atStart => exact ⟨true, 0, rfl, rfl, Nat.zero_le _, by show _ = _; simp, Y4⟩
  case round =>
    obtain ⟨gd, k, rfl, rfl, hk, hH, hZ⟩ := hrel
    by_cases hlt : k < l.length
    · obtain ⟨e0, he0⟩ : ∃ e0, l[k]? = some e0 := ⟨_, List.getElem?_eq_getElem hlt⟩
      have htk : l.take (k + 1) = l.take k ++ [e0] := by rw [List.take_add_one, he0]; rfl
      cases gd with
      | false =>
        have HY : Hid ((l.take (k + 1)).all Tp.right = false) := by show _ = _; rw [htk, List.all_append, hH.out]; rfl
        clear hH he0 htk
        go_wp2
        go_roundw
        case rel => exact ⟨false, k + 1, rfl, by go_num, by omega, HY, hZ⟩
        case measure => simp [intOf]; omega
      | true =>
        obtain ⟨be, oe, ce, hv, -⟩ := (hLl.out _ (kB.out _ (kP.out _ hZ.out.here))).resolve_right (fun h => by rw [h.1] at hlt; exact absurd hlt (Nat.not_lt_zero _))
        injection hv with e1 e2 e3
        subst e1
        obtain ⟨ve, te, x0, x1, x2, -, -⟩ := (hLl.out _ (kB.out _ (kP.out _ hZ.out.here))).elem he0
        obtain ⟨ae, cE, ee⟩ := te.form
        simp only [List.cons.injEq, and_true, true_and] at ee
        subst ee
        have hQ := hid (Right_any _ _ _ e0 te)
        have HY : Hid ((l.take (k + 1)).all Tp.right = e0.right) := by show _ = _; rw [htk, List.all_append, hH.out]; simp
        generalize e0.right = er at hQ HY
        clear hH he0 htk te e2 e3
        go_wp2_with (go_at_call 22; refine hQ.out.mono ?_; rintro e w6 ⟨rfl, hb6⟩; have Z6 := hid (hZ.out.stays hb6); clear hb6)
        go_roundw
        case rel => exact ⟨er, k + 1, by simp, by go_num, by omega, HY, Z6⟩
        case measure => simp [intOf]; omega
    · obtain rfl : k = l.length := by omega
      have hgd : gd = false := by rw [← hH.out, List.take_length]; exact hgood.out
      subst hgd
      have xs6 := k6.out _ hZ.out.here
      clear hH Y4
      go_wp2_with (go_at_call 10; refine (hIn.out _ _ _ _ (kB.out _ (kP.out _ hZ.out.here)) (k5.out _ hZ.out.here)).mono ?_; rintro e w7 ⟨a6, n6, c6, rfl, hT7, hb7⟩; have Z7 := hid ((hZ.out.stays hb7).addT hT7); clear hb7 hT7)
      obtain ⟨W8, hW8⟩ : ∃ W8, w7.alloc (.cells #[.int .i64 x.k, .int .i64 x.n, .slice a6 x.ks.length c6] 24) = W8 := ⟨_, rfl⟩
      have Z8 := hid ((Z7.out.stays (bl_alloc (Below.refl _ _) (.cells #[.int .i64 x.k, .int .i64 x.n, .slice a6 x.ks.length c6] 24))).addA (b := w7.heap.size) (T := 24) (cur := [.int .i64 x.k, .int .i64 x.n, .slice a6 x.ks.length c6]) ⟨heap_alloc_at _ _⟩)
      rw [hW8] at Z8 ⊢
      obtain ⟨P8, b8, e8, Y8, kP8, k58, k68, k78, k98⟩ : ∃ (P8 : World → Prop) (b8 : Nat), b8 = w7.heap.size ∧ Hid (St P8 W8) ∧ Hid (∀ W, P8 W → P W) ∧ Hid (∀ W, P8 W → TAt W Any n5 [.int .i64 y.k, .int .i64 y.n, .slice a5 y.ks.length c5] y) ∧ Hid (∀ W, P8 W → ∀ j : Nat, W.cell? ⟨w1.heap.size, j, none⟩ = [.int .i64 (m : Nat), .int .i64 y.k, .int .i64 y.n, .slice a5 y.ks.length c5][j]?) ∧ Hid (∀ W, P8 W → TAt W Any n6 [.int .i64 x.k, .int .i64 x.n, .slice a6 x.ks.length c6] x) ∧ Hid (∀ W, P8 W → ∀ j : Nat, W.cell? ⟨b8, j, none⟩ = [.int .i64 x.k, .int .i64 x.n, .slice a6 x.ks.length c6][j]?) := ⟨_, _, rfl, Z8, fun W h => kP.out W h.1.1, fun W h => k5.out W h.1.1, fun W h => k6.out W h.1.1, fun W h => h.1.2, fun W h => h.2.cell⟩
      rw [← e8]
      have mkS : Hid (∀ wz, St P8 wz → (∀ j : Nat, wz.cell? ⟨w1.heap.size, j, none⟩ = [.int .i64 (m : Nat), .int .i64 y.k, .int .i64 y.n, .slice a5 y.ks.length c5][j]?) ∧ (∀ j : Nat, wz.cell? ⟨b8, j, none⟩ = [.int .i64 x.k, .int .i64 x.n, .slice a6 x.ks.length c6][j]?) ∧ St P8 wz) := fun wz h => ⟨k68.out wz h.here, k98.out wz h.here, h⟩
      have hs0 := hid (mkS.out _ (Y8.out.stays (Below.refl _ _).drew))
      clear e8 hW8 Z8 Z7 xs6 hZ
      refine wp_region_held_drew (S := fun wz => (∀ j : Nat, wz.cell? ⟨w1.heap.size, j, none⟩ = [.int .i64 (m : Nat), .int .i64 y.k, .int .i64 y.n, .slice a5 y.ks.length c5][j]?) ∧ (∀ j : Nat, wz.cell? ⟨b8, j, none⟩ = [.int .i64 x.k, .int .i64 x.n, .slice a6 x.ks.length c6][j]?) ∧ St P8 wz) (by kernel_rfl) (hs0.out) (fun hS => ?_)
      refine wpAnyH_take (i := 0) (v := ?_) rfl (by kernel_rfl) (by kernel_rfl) (by kernel_rfl) (fun _ _ _ h => h) (Or.inl ⟨by rfl, ?_⟩) hS ?_
      rotate_left
      · intro wz hz; go_simp; try with_reducible rfl
      try simp only [Act.put, List.setIfInBounds_toArray, List.set_cons_zero, List.set_cons_succ, List.getElem_toArray, List.getElem_cons_succ, List.getElem_cons_zero]
      refine wpAnyH_take (i := 1) (v := ?_) rfl (by kernel_rfl) (by kernel_rfl) (by kernel_rfl) (fun _ _ _ h => h) (Or.inl ⟨by rfl, ?_⟩) hS ?_
      rotate_left
      · intro wz hz; go_simp; try with_reducible rfl
      try simp only [Act.put, List.setIfInBounds_toArray, List.set_cons_zero, List.set_cons_succ, List.getElem_toArray, List.getElem_cons_succ, List.getElem_cons_zero]
      refine wpAnyH_take (i := 2) (v := undef) rfl (by kernel_rfl) (by kernel_rfl) (by kernel_rfl) (fun _ _ _ h => h) (Or.inr ⟨by rfl, rfl⟩) hS ?_
      try simp only [Act.put, List.setIfInBounds_toArray, List.set_cons_zero, List.set_cons_succ, List.getElem_toArray, List.getElem_cons_succ, List.getElem_cons_zero]
      refine wpAnyH_take (i := 3) (v := undef) rfl (by kernel_rfl) (by kernel_rfl) (by kernel_rfl) (fun _ _ _ h => h) (Or.inr ⟨by rfl, rfl⟩) hS ?_
      try simp only [Act.put, List.setIfInBounds_toArray, List.set_cons_zero, List.set_cons_succ, List.getElem_toArray, List.getElem_cons_succ, List.getElem_cons_zero]
      refine wpAnyH_take (i := 4) (v := ?_) rfl (by kernel_rfl) (by kernel_rfl) (by kernel_rfl) (fun _ _ _ h => h) (Or.inl ⟨by rfl, ?_⟩) hS ?_
      rotate_left
      · intro wz hz; go_simp; try with_reducible rfl
      try simp only [Act.put, List.setIfInBounds_toArray, List.set_cons_zero, List.set_cons_succ, List.getElem_toArray, List.getElem_cons_succ, List.getElem_cons_zero]
      refine wpAnyH_take (i := 5) (v := ?_) rfl (by kernel_rfl) (by kernel_rfl) (by kernel_rfl) (fun _ _ _ h => h) (Or.inl ⟨by rfl, ?_⟩) hS ?_
      rotate_left
      · intro wz hz; go_simp; try with_reducible rfl
      try simp only [Act.put, List.setIfInBounds_toArray, List.set_cons_zero, List.set_cons_succ, List.getElem_toArray, List.getElem_cons_succ, List.getElem_cons_zero]
      refine wpAnyH_take (i := 6) (v := undef) rfl (by kernel_rfl) (by kernel_rfl) (by kernel_rfl) (fun _ _ _ h => h) (Or.inr ⟨by rfl, rfl⟩) hS ?_
      try simp only [Act.put, List.setIfInBounds_toArray, List.set_cons_zero, List.set_cons_succ, List.getElem_toArray, List.getElem_cons_succ, List.getElem_cons_zero]
      refine wpAnyH_take (i := 7) (v := undef) rfl (by kernel_rfl) (by kernel_rfl) (by kernel_rfl) (fun _ _ _ h => h) (Or.inr ⟨by rfl, rfl⟩) hS ?_
      try simp only [Act.put, List.setIfInBounds_toArray, List.set_cons_zero, List.set_cons_succ, List.getElem_toArray, List.getElem_cons_succ, List.getElem_cons_zero]
      refine wpAnyH_take (i := 8) (v := undef) rfl (by kernel_rfl) (by kernel_rfl) (by kernel_rfl) (fun _ _ _ h => h) (Or.inr ⟨by rfl, rfl⟩) hS ?_
      try simp only [Act.put, List.setIfInBounds_toArray, List.set_cons_zero, List.set_cons_succ, List.getElem_toArray, List.getElem_cons_succ, List.getElem_cons_zero]
      refine wpAnyH_take (i := 9) (v := undef) rfl (by kernel_rfl) (by kernel_rfl) (by kernel_rfl) (fun _ _ _ h => h) (Or.inr ⟨by rfl, rfl⟩) hS ?_
      try simp only [Act.put, List.setIfInBounds_toArray, List.set_cons_zero, List.set_cons_succ, List.getElem_toArray, List.getElem_cons_succ, List.getElem_cons_zero]
      refine wpAnyH_take (i := 10) (v := ?_) rfl (by kernel_rfl) (by kernel_rfl) (by kernel_rfl) (fun _ _ _ h => h) (Or.inl ⟨by rfl, ?_⟩) hS ?_
      rotate_left
      · intro wz hz; go_simp; try with_reducible rfl
      try simp only [Act.put, List.setIfInBounds_toArray, List.set_cons_zero, List.set_cons_succ, List.getElem_toArray, List.getElem_cons_succ, List.getElem_cons_zero]
      refine wpAnyH_take (i := 11) (v := ?_) rfl (by kernel_rfl) (by kernel_rfl) (by kernel_rfl) (fun _ _ _ h => h) (Or.inl ⟨by rfl, ?_⟩) hS ?_
      rotate_left
      · intro wz hz; go_simp; try with_reducible rfl
      try simp only [Act.put, List.setIfInBounds_toArray, List.set_cons_zero, List.set_cons_succ, List.getElem_toArray, List.getElem_cons_succ, List.getElem_cons_zero]
      refine wpAnyH_take (i := 12) (v := undef) rfl (by kernel_rfl) (by kernel_rfl) (by kernel_rfl) (fun _ _ _ h => h) (Or.inr ⟨by rfl, rfl⟩) hS ?_
      try simp only [Act.put, List.setIfInBounds_toArray, List.set_cons_zero, List.set_cons_succ, List.getElem_toArray, List.getElem_cons_succ, List.getElem_cons_zero]
      refine wpAnyH_take (i := 13) (v := undef) rfl (by kernel_rfl) (by kernel_rfl) (by kernel_rfl) (fun _ _ _ h => h) (Or.inr ⟨by rfl, rfl⟩) hS ?_
      try simp only [Act.put, List.setIfInBounds_toArray, List.set_cons_zero, List.set_cons_succ, List.getElem_toArray, List.getElem_cons_succ, List.getElem_cons_zero]
      refine wpAnyH_take (i := 14) (v := undef) rfl (by kernel_rfl) (by kernel_rfl) (by kernel_rfl) (fun _ _ _ h => h) (Or.inr ⟨by rfl, rfl⟩) hS ?_
      try simp only [Act.put, List.setIfInBounds_toArray, List.set_cons_zero, List.set_cons_succ, List.getElem_toArray, List.getElem_cons_succ, List.getElem_cons_zero]
      refine wpAnyH_take (i := 15) (v := undef) rfl (by kernel_rfl) (by kernel_rfl) (by kernel_rfl) (fun _ _ _ h => h) (Or.inr ⟨by rfl, rfl⟩) hS ?_
      try simp only [Act.put, List.setIfInBounds_toArray, List.set_cons_zero, List.set_cons_succ, List.getElem_toArray, List.getElem_cons_succ, List.getElem_cons_zero]
      refine wpAnyH_take (i := 16) (v := undef) rfl (by kernel_rfl) (by kernel_rfl) (by kernel_rfl) (fun _ _ _ h => h) (Or.inr ⟨by rfl, rfl⟩) hS ?_
      try simp only [Act.put, List.setIfInBounds_toArray, List.set_cons_zero, List.set_cons_succ, List.getElem_toArray, List.getElem_cons_succ, List.getElem_cons_zero]
      refine wpAnyH_take (i := 17) (v := ?_) rfl (by kernel_rfl) (by kernel_rfl) (by kernel_rfl) (fun _ _ _ h => h) (Or.inl ⟨by rfl, ?_⟩) hS ?_
      rotate_left
      · intro wz hz; go_simp; try with_reducible rfl
      try simp only [Act.put, List.setIfInBounds_toArray, List.set_cons_zero, List.set_cons_succ, List.getElem_toArray, List.getElem_cons_succ, List.getElem_cons_zero]
      refine wpAnyH_done (by kernel_rfl) ?_ _
      have HZ0 := hid (st2T hS)
      have HZ := hid (St.mk (P := P8) HZ0.out.here HZ0.out.st)
      clear hS
      have ya0 := ka.out _ (kP8.out _ HZ.out.here)
      have yb0 := kb.out _ (kP8.out _ HZ.out.here)
      have HP := kP8
      go_wp2_with (first
        | (go_at_call 14; have := m4; refine (hMa.out _ (kB.out _ (kP8.out _ HZ.out.here))).mono ?_; rintro e v1 ⟨p1, q1, N1, rfl, hL1, hv1⟩; have HL1 := hid hL1; clear hL1; have Y1 := hid (HZ.out.stays hv1); have ya1 := ka.out _ (kP8.out _ Y1.out.here); have yb1 := kb.out _ (kP8.out _ Y1.out.here); clear hv1 m4)
        | (go_at_call 10; have := m5; refine (hI2.out _ _ _ _ (kB.out _ (kP8.out _ Y1.out.here)) HL1.out).mono ?_; rintro e v2 ⟨a9, c9, rfl, hv2⟩; have Y2 := hid (Y1.out.stays hv2); have yb2 := kb.out _ (kP8.out _ (Y2.out.stays (bl_alloc (Below.refl _ _) (.cells #[.int .i64 0, .int .i64 0, .slice a9 0 c9] 24))).here); clear hv2 m5)
        | (go_at_call 27; have := m6; refine (hFi.out _ (bl_alloc (kB.out _ (kP8.out _ Y2.out.here)) _)).mono ?_; rintro e v3 ⟨rfl, hv3⟩; have Y3 := hid ((Y2.out.stays (bl_alloc (Below.refl _ _) _)).stays hv3); clear hv3 m6)
        | (go_at_call 13; refine (hLive.out _).mono ?_; rintro e v4 ⟨rfl, hv4⟩; have HE := hid (bl_tr (kB.out _ (kP8.out _ Y3.out.here)) hv4); clear hv4))
      go_ret
      exact ⟨rfl, HE.out⟩

set_option maxHeartbeats 16000000 in
set_option maxRecDepth 100000 in
theorem general_C2M0 (w : World) (nl : Nat) (ga gb : Int) (t y a b : Tp) (t1 a1 b1 kp lp : Option Addr) (t2 a2 b2 kc lc m : Nat) (keep : List Int) (l : List Tp) (hGe : Hid (∀ wz, Below w.heap.size w wz → Calls Try.prog 21 #[.agg #[.int .i64 t.k, .int .i64 t.n, .slice t1 t.ks.length t2], .slice kp keep.length kc] wz fun e w' => ∃ a5 n5 c5, e = .returned (.agg #[.int .i64 (m : Nat), .int .i64 y.k, .int .i64 y.n, .slice a5 y.ks.length c5]) ∧ TAt w' Any n5 [.int .i64 y.k, .int .i64 y.n, .slice a5 y.ks.length c5] y ∧ Below wz.heap.size wz w')) (hRi : Hid (∀ wz, Below w.heap.size w wz → Calls Try.prog 22 #[.agg #[.int .i64 t.k, .int .i64 t.n, .slice t1 t.ks.length t2]] wz fun e w' => e = .returned (.bool true) ∧ Below wz.heap.size wz w')) (g8 : Nat) (hGn : Hid (∀ wz, Below w.heap.size w wz → Calls Try.prog 23 #[.agg #[.int .i64 t.k, .int .i64 t.n, .slice t1 t.ks.length t2]] wz fun e w' => ∃ p q, e = .returned (.slice p 0 q) ∧ Below wz.heap.size wz w')) (hRS : Hid (∀ wz a5 n5 c5, TAt wz Any n5 [.int .i64 y.k, .int .i64 y.n, .slice a5 y.ks.length c5] y → Calls Try.prog 24 #[.agg #[.int .i64 (m : Nat), .int .i64 y.k, .int .i64 y.n, .slice a5 y.ks.length c5]] wz fun e w' => e = .returned (.bool true) ∧ Below wz.heap.size wz w')) (hlm : l.length ≤ 1048576) (hLl : Hid (∀ wz, Below w.heap.size w wz → TAtL wz Any nl (.slice lp l.length lc) l)) (hgood : Hid (l.all Tp.right = true)) (x : Tp) (q : Int) (hq : (q == 0) = false)  (hIn : Hid (∀ wz a5 n5 c5, Below w.heap.size w wz → TAt wz Any n5 [.int .i64 y.k, .int .i64 y.n, .slice a5 y.ks.length c5] y → Calls Try.prog 10 #[.agg #[.int .i64 (m : Nat), .int .i64 y.k, .int .i64 y.n, .slice a5 y.ks.length c5], .slice lp l.length lc] wz fun e w' => ∃ a6 n6 c6, e = .returned (.tuple #[.agg #[.int .i64 x.k, .int .i64 x.n, .slice a6 x.ks.length c6], .int .i64 q]) ∧ TAt w' Any n6 [.int .i64 x.k, .int .i64 x.n, .slice a6 x.ks.length c6] x ∧ Below wz.heap.size wz w')) (hMa : Hid (∀ wz, Below w.heap.size w wz → Calls Try.prog 14 #[.agg #[.int .i64 ga, .int .i64 a.k, .int .i64 a.n, .slice a1 a.ks.length a2], .agg #[.int .i64 gb, .int .i64 b.k, .int .i64 b.n, .slice b1 b.ks.length b2]] wz fun e w' => e = .returned (.tuple #[.slice none 0 0, .bool false]) ∧ Below wz.heap.size wz w')) (hLive : Hid (∀ wz, Calls Try.prog 13 #[] wz fun e w' => e = .returned (.bool true) ∧ Below wz.heap.size wz w')) :
    Calls Try.prog 5 #[.agg #[.int .i64 t.k, .int .i64 t.n, .slice t1 t.ks.length t2], .slice kp keep.length kc, .slice lp l.length lc, .agg #[.int .i64 ga, .int .i64 a.k, .int .i64 a.n, .slice a1 a.ks.length a2], .agg #[.int .i64 gb, .int .i64 b.k, .int .i64 b.n, .slice b1 b.ks.length b2]] w fun e w' => e = .returned (.bool true) ∧ Below w.heap.size w w' := by
  have Z := hid (((st_new w).stays (bl_alloc (bl_alloc (bl_alloc (Below.refl _ _) (.cells #[.int .i64 t.k, .int .i64 t.n, .slice t1 t.ks.length t2] 24)) (.cells #[.int .i64 ga, .int .i64 a.k, .int .i64 a.n, .slice a1 a.ks.length a2] 26)) (.cells #[.int .i64 gb, .int .i64 b.k, .int .i64 b.n, .slice b1 b.ks.length b2] 26))).addA (b := w.heap.size) (T := 24) (cur := [.int .i64 t.k, .int .i64 t.n, .slice t1 t.ks.length t2]) (Arr.stays (Arr.stays ⟨heap_alloc_at _ _⟩ (bl_alloc (Below.refl _ _) _)) (bl_alloc (Below.refl _ _) _)))
  have Z := hid (Z.out.addA (b := w.heap.size + 1) (T := 26) (cur := [.int .i64 ga, .int .i64 a.k, .int .i64 a.n, .slice a1 a.ks.length a2]) (Arr.stays ⟨by have := heap_alloc_at (w.alloc (.cells #[.int .i64 t.k, .int .i64 t.n, .slice t1 t.ks.length t2] 24)) (.cells #[.int .i64 ga, .int .i64 a.k, .int .i64 a.n, .slice a1 a.ks.length a2] 26); rw [size_alloc] at this; exact this⟩ (bl_alloc (Below.refl _ _) _)))
  have Z := hid (Z.out.addA (b := w.heap.size + 1 + 1) (T := 26) (cur := [.int .i64 gb, .int .i64 b.k, .int .i64 b.n, .slice b1 b.ks.length b2]) ⟨by have := heap_alloc_at ((w.alloc (.cells #[.int .i64 t.k, .int .i64 t.n, .slice t1 t.ks.length t2] 24)).alloc (.cells #[.int .i64 ga, .int .i64 a.k, .int .i64 a.n, .slice a1 a.ks.length a2] 26)) (.cells #[.int .i64 gb, .int .i64 b.k, .int .i64 b.n, .slice b1 b.ks.length b2] 26); rw [size_alloc, size_alloc] at this; exact this⟩)
  obtain ⟨P, Z, kt, ka, kb, kB⟩ : ∃ P : World → Prop, Hid (St P (((w.alloc (.cells #[.int .i64 t.k, .int .i64 t.n, .slice t1 t.ks.length t2] 24)).alloc (.cells #[.int .i64 ga, .int .i64 a.k, .int .i64 a.n, .slice a1 a.ks.length a2] 26)).alloc (.cells #[.int .i64 gb, .int .i64 b.k, .int .i64 b.n, .slice b1 b.ks.length b2] 26))) ∧ Hid (∀ W, P W → ∀ j : Nat, W.cell? ⟨w.heap.size, j, none⟩ = [.int .i64 t.k, .int .i64 t.n, .slice t1 t.ks.length t2][j]?) ∧ Hid (∀ W, P W → ∀ j : Nat, W.cell? ⟨w.heap.size + 1, j, none⟩ = [.int .i64 ga, .int .i64 a.k, .int .i64 a.n, .slice a1 a.ks.length a2][j]?) ∧ Hid (∀ W, P W → ∀ j : Nat, W.cell? ⟨w.heap.size + 1 + 1, j, none⟩ = [.int .i64 gb, .int .i64 b.k, .int .i64 b.n, .slice b1 b.ks.length b2][j]?) ∧ Hid (∀ W, P W → Below w.heap.size w W) :=
    ⟨_, Z, fun W h => h.1.1.2.cell, fun W h => h.1.2.cell, fun W h => h.2.cell, fun W h => h.1.1.1⟩
  have m1 : Hid True := trivial
  have m2 : Hid True := trivial
  have m3 : Hid True := trivial
  have m4 : Hid True := trivial
  have m5 : Hid True := trivial
  have m6 : Hid True := trivial
  have m7 : Hid True := trivial
  have m8 : Hid True := trivial
  go_enter Try.func5, Try.ntmps5
  go_wp2_with (first
    | (go_at_call 21; refine (hGe.out _ (kB.out _ Z.out.here)).mono ?_; rintro e w1 ⟨a5, n5, c5, rfl, hT1, hb1⟩; have Z1 := hid ((Z.out.stays hb1).addT hT1); have HT1 := hid hT1; have xt1 := fun o => kt.out _ (Z1.out.stays (bl_alloc (Below.refl _ _) o)).here.1; clear hb1 hT1)
    | (go_at_call 22; have := m1; refine (hRi.out _ (bl_alloc (kB.out _ Z1.out.here.1) _)).mono ?_; rintro e w2 ⟨rfl, hb2⟩; have Z2 := hid (((Z1.out.stays (bl_alloc (Below.refl _ _) (.cells #[.int .i64 (m : Nat), .int .i64 y.k, .int .i64 y.n, .slice a5 y.ks.length c5] 26))).addA (b := w1.heap.size) (T := 26) (cur := [.int .i64 (m : Nat), .int .i64 y.k, .int .i64 y.n, .slice a5 y.ks.length c5]) ⟨heap_alloc_at _ _⟩).stays hb2); have xt2 := kt.out _ Z2.out.here.1.1; have xs2 := Z2.out.here.2.cell; have xa2 := ka.out _ Z2.out.here.1.1; have xb2 := kb.out _ Z2.out.here.1.1; clear hb2 m1)
    | (go_at_call 23; have := m2; refine (hGn.out _ (kB.out _ Z2.out.here.1.1)).mono ?_; rintro e w3 ⟨p3, q3, rfl, hb3⟩; have Z3 := hid (Z2.out.stays hb3); have xs3 := Z3.out.here.2.cell; have xa3 := ka.out _ Z3.out.here.1.1; have xb3 := kb.out _ Z3.out.here.1.1; clear hb3 m2)
    | (go_at_call 24; have := m3; refine (hRS.out _ _ _ _ Z3.out.here.1.2).mono ?_; rintro e w4 ⟨rfl, hb4⟩; have Z4 := hid (Z3.out.stays hb4); have xs4 := Z4.out.here.2.cell; clear hb4 m3))
  obtain ⟨P4, Y4, kP, k5, k6⟩ : ∃ P4 : World → Prop, Hid (St P4 w4) ∧ Hid (∀ W, P4 W → P W) ∧ Hid (∀ W, P4 W → TAt W Any n5 [.int .i64 y.k, .int .i64 y.n, .slice a5 y.ks.length c5] y) ∧ Hid (∀ W, P4 W → ∀ j : Nat, W.cell? ⟨w1.heap.size, j, none⟩ = [.int .i64 (m : Nat), .int .i64 y.k, .int .i64 y.n, .slice a5 y.ks.length c5][j]?) := ⟨_, Z4, fun W h => h.1.1, fun W h => h.1.2, fun W h => h.2.cell⟩
  clear xt1 xt2 xs2 xa2 xb2 xs3 xa3 xb3 xs4 Z Z1 Z2 Z3 Z4 HT1
  go_loopw [12, 13] (fun v12 v13 wr => ∃ (gd : Bool) (k : Nat), v12 = .bool gd ∧ v13 = .int .i64 k ∧ k ≤ l.length ∧ Hid ((l.take k).all Tp.right = gd) ∧ Hid (St P4 wr)) (fun _ v13 _ => l.length - (intOf v13).toNat)
  case atStart => exact ⟨true, 0, rfl, rfl, Nat.zero_le _, by show _ = _; simp, Y4⟩
  case round =>
    obtain ⟨gd, k, rfl, rfl, hk, hH, hZ⟩ := hrel
    by_cases hlt : k < l.length
    · obtain ⟨e0, he0⟩ : ∃ e0, l[k]? = some e0 := ⟨_, List.getElem?_eq_getElem hlt⟩
      have htk : l.take (k + 1) = l.take k ++ [e0] := by rw [List.take_add_one, he0]; rfl
      cases gd with
      | false =>
        have HY : Hid ((l.take (k + 1)).all Tp.right = false) := by show _ = _; rw [htk, List.all_append, hH.out]; rfl
        clear hH he0 htk
        go_wp2
        go_roundw
        case rel => exact ⟨false, k + 1, rfl, by go_num, by omega, HY, hZ⟩
        case measure => simp [intOf]; omega
      | true =>
        obtain ⟨be, oe, ce, hv, -⟩ := (hLl.out _ (kB.out _ (kP.out _ hZ.out.here))).resolve_right (fun h => by rw [h.1] at hlt; exact absurd hlt (Nat.not_lt_zero _))
        injection hv with e1 e2 e3
        subst e1
        obtain ⟨ve, te, x0, x1, x2, -, -⟩ := (hLl.out _ (kB.out _ (kP.out _ hZ.out.here))).elem he0
        obtain ⟨ae, cE, ee⟩ := te.form
        simp only [List.cons.injEq, and_true, true_and] at ee
        subst ee
        have hQ := hid (Right_any _ _ _ e0 te)
        have HY : Hid ((l.take (k + 1)).all Tp.right = e0.right) := by show _ = _; rw [htk, List.all_append, hH.out]; simp
        generalize e0.right = er at hQ HY
        clear hH he0 htk te e2 e3
        go_wp2_with (go_at_call 22; refine hQ.out.mono ?_; rintro e w6 ⟨rfl, hb6⟩; have Z6 := hid (hZ.out.stays hb6); clear hb6)
        go_roundw
        case rel => exact ⟨er, k + 1, by simp, by go_num, by omega, HY, Z6⟩
        case measure => simp [intOf]; omega
    · obtain rfl : k = l.length := by omega
      have hgd : gd = true := by rw [← hH.out, List.take_length]; exact hgood.out
      subst hgd
      have xs6 := k6.out _ hZ.out.here
      clear hH Y4
      go_wp2_with (go_at_call 10; refine (hIn.out _ _ _ _ (kB.out _ (kP.out _ hZ.out.here)) (k5.out _ hZ.out.here)).mono ?_; rintro e w7 ⟨a6, n6, c6, rfl, hT7, hb7⟩; have Z7 := hid ((hZ.out.stays hb7).addT hT7); clear hb7 hT7)
      obtain ⟨W8, hW8⟩ : ∃ W8, w7.alloc (.cells #[.int .i64 x.k, .int .i64 x.n, .slice a6 x.ks.length c6] 24) = W8 := ⟨_, rfl⟩
      have Z8 := hid ((Z7.out.stays (bl_alloc (Below.refl _ _) (.cells #[.int .i64 x.k, .int .i64 x.n, .slice a6 x.ks.length c6] 24))).addA (b := w7.heap.size) (T := 24) (cur := [.int .i64 x.k, .int .i64 x.n, .slice a6 x.ks.length c6]) ⟨heap_alloc_at _ _⟩)
      rw [hW8] at Z8 ⊢
      obtain ⟨P8, b8, e8, Y8, kP8, k58, k68, k78, k98⟩ : ∃ (P8 : World → Prop) (b8 : Nat), b8 = w7.heap.size ∧ Hid (St P8 W8) ∧ Hid (∀ W, P8 W → P W) ∧ Hid (∀ W, P8 W → TAt W Any n5 [.int .i64 y.k, .int .i64 y.n, .slice a5 y.ks.length c5] y) ∧ Hid (∀ W, P8 W → ∀ j : Nat, W.cell? ⟨w1.heap.size, j, none⟩ = [.int .i64 (m : Nat), .int .i64 y.k, .int .i64 y.n, .slice a5 y.ks.length c5][j]?) ∧ Hid (∀ W, P8 W → TAt W Any n6 [.int .i64 x.k, .int .i64 x.n, .slice a6 x.ks.length c6] x) ∧ Hid (∀ W, P8 W → ∀ j : Nat, W.cell? ⟨b8, j, none⟩ = [.int .i64 x.k, .int .i64 x.n, .slice a6 x.ks.length c6][j]?) := ⟨_, _, rfl, Z8, fun W h => kP.out W h.1.1, fun W h => k5.out W h.1.1, fun W h => k6.out W h.1.1, fun W h => h.1.2, fun W h => h.2.cell⟩
      rw [← e8]
      have mkS : Hid (∀ wz, St P8 wz → (∀ j : Nat, wz.cell? ⟨w1.heap.size, j, none⟩ = [.int .i64 (m : Nat), .int .i64 y.k, .int .i64 y.n, .slice a5 y.ks.length c5][j]?) ∧ (∀ j : Nat, wz.cell? ⟨b8, j, none⟩ = [.int .i64 x.k, .int .i64 x.n, .slice a6 x.ks.length c6][j]?) ∧ St P8 wz) := fun wz h => ⟨k68.out wz h.here, k98.out wz h.here, h⟩
      have hs0 := hid (mkS.out _ (Y8.out.stays (Below.refl _ _).drew))
      clear e8 hW8 Z8 Z7 xs6 hZ
      refine wp_region_held_drew (S := fun wz => (∀ j : Nat, wz.cell? ⟨w1.heap.size, j, none⟩ = [.int .i64 (m : Nat), .int .i64 y.k, .int .i64 y.n, .slice a5 y.ks.length c5][j]?) ∧ (∀ j : Nat, wz.cell? ⟨b8, j, none⟩ = [.int .i64 x.k, .int .i64 x.n, .slice a6 x.ks.length c6][j]?) ∧ St P8 wz) (by kernel_rfl) (hs0.out) (fun hS => ?_)
      refine wpAnyH_take (i := 0) (v := ?_) rfl (by kernel_rfl) (by kernel_rfl) (by kernel_rfl) (fun _ _ _ h => h) (Or.inl ⟨by rfl, ?_⟩) hS ?_
      rotate_left
      · intro wz hz; go_simp; try with_reducible rfl
      try simp only [Act.put, List.setIfInBounds_toArray, List.set_cons_zero, List.set_cons_succ, List.getElem_toArray, List.getElem_cons_succ, List.getElem_cons_zero]
      refine wpAnyH_take (i := 1) (v := ?_) rfl (by kernel_rfl) (by kernel_rfl) (by kernel_rfl) (fun _ _ _ h => h) (Or.inl ⟨by rfl, ?_⟩) hS ?_
      rotate_left
      · intro wz hz; go_simp; try with_reducible rfl
      try simp only [Act.put, List.setIfInBounds_toArray, List.set_cons_zero, List.set_cons_succ, List.getElem_toArray, List.getElem_cons_succ, List.getElem_cons_zero]
      refine wpAnyH_take (i := 2) (v := ?_) rfl (by kernel_rfl) (by kernel_rfl) (by kernel_rfl) (fun _ _ _ h => h) (Or.inl ⟨by rfl, ?_⟩) hS ?_
      rotate_left
      · intro wz hz; go_simp; try with_reducible rfl
      try simp only [Act.put, List.setIfInBounds_toArray, List.set_cons_zero, List.set_cons_succ, List.getElem_toArray, List.getElem_cons_succ, List.getElem_cons_zero]
      refine wpAnyH_take (i := 3) (v := ?_) rfl (by kernel_rfl) (by kernel_rfl) (by kernel_rfl) (fun _ _ _ h => h) (Or.inl ⟨by rfl, ?_⟩) hS ?_
      rotate_left
      · intro wz hz; go_simp; try with_reducible rfl
      try simp only [Act.put, List.setIfInBounds_toArray, List.set_cons_zero, List.set_cons_succ, List.getElem_toArray, List.getElem_cons_succ, List.getElem_cons_zero]
      refine wpAnyH_take (i := 4) (v := ?_) rfl (by kernel_rfl) (by kernel_rfl) (by kernel_rfl) (fun _ _ _ h => h) (Or.inl ⟨by rfl, ?_⟩) hS ?_
      rotate_left
      · intro wz hz; go_simp; try with_reducible rfl
      try simp only [Act.put, List.setIfInBounds_toArray, List.set_cons_zero, List.set_cons_succ, List.getElem_toArray, List.getElem_cons_succ, List.getElem_cons_zero]
      refine wpAnyH_take (i := 5) (v := ?_) rfl (by kernel_rfl) (by kernel_rfl) (by kernel_rfl) (fun _ _ _ h => h) (Or.inl ⟨by rfl, ?_⟩) hS ?_
      rotate_left
      · intro wz hz; go_simp; try with_reducible rfl
      try simp only [Act.put, List.setIfInBounds_toArray, List.set_cons_zero, List.set_cons_succ, List.getElem_toArray, List.getElem_cons_succ, List.getElem_cons_zero]
      refine wpAnyH_take (i := 6) (v := undef) rfl (by kernel_rfl) (by kernel_rfl) (by kernel_rfl) (fun _ _ _ h => h) (Or.inr ⟨by rfl, rfl⟩) hS ?_
      try simp only [Act.put, List.setIfInBounds_toArray, List.set_cons_zero, List.set_cons_succ, List.getElem_toArray, List.getElem_cons_succ, List.getElem_cons_zero]
      refine wpAnyH_take (i := 7) (v := undef) rfl (by kernel_rfl) (by kernel_rfl) (by kernel_rfl) (fun _ _ _ h => h) (Or.inr ⟨by rfl, rfl⟩) hS ?_
      try simp only [Act.put, List.setIfInBounds_toArray, List.set_cons_zero, List.set_cons_succ, List.getElem_toArray, List.getElem_cons_succ, List.getElem_cons_zero]
      refine wpAnyH_take (i := 8) (v := undef) rfl (by kernel_rfl) (by kernel_rfl) (by kernel_rfl) (fun _ _ _ h => h) (Or.inr ⟨by rfl, rfl⟩) hS ?_
      try simp only [Act.put, List.setIfInBounds_toArray, List.set_cons_zero, List.set_cons_succ, List.getElem_toArray, List.getElem_cons_succ, List.getElem_cons_zero]
      refine wpAnyH_take (i := 9) (v := undef) rfl (by kernel_rfl) (by kernel_rfl) (by kernel_rfl) (fun _ _ _ h => h) (Or.inr ⟨by rfl, rfl⟩) hS ?_
      try simp only [Act.put, List.setIfInBounds_toArray, List.set_cons_zero, List.set_cons_succ, List.getElem_toArray, List.getElem_cons_succ, List.getElem_cons_zero]
      refine wpAnyH_take (i := 10) (v := ?_) rfl (by kernel_rfl) (by kernel_rfl) (by kernel_rfl) (fun _ _ _ h => h) (Or.inl ⟨by rfl, ?_⟩) hS ?_
      rotate_left
      · intro wz hz; go_simp; try with_reducible rfl
      try simp only [Act.put, List.setIfInBounds_toArray, List.set_cons_zero, List.set_cons_succ, List.getElem_toArray, List.getElem_cons_succ, List.getElem_cons_zero]
      refine wpAnyH_take (i := 11) (v := ?_) rfl (by kernel_rfl) (by kernel_rfl) (by kernel_rfl) (fun _ _ _ h => h) (Or.inl ⟨by rfl, ?_⟩) hS ?_
      rotate_left
      · intro wz hz; go_simp; try with_reducible rfl
      try simp only [Act.put, List.setIfInBounds_toArray, List.set_cons_zero, List.set_cons_succ, List.getElem_toArray, List.getElem_cons_succ, List.getElem_cons_zero]
      refine wpAnyH_take (i := 12) (v := undef) rfl (by kernel_rfl) (by kernel_rfl) (by kernel_rfl) (fun _ _ _ h => h) (Or.inr ⟨by rfl, rfl⟩) hS ?_
      try simp only [Act.put, List.setIfInBounds_toArray, List.set_cons_zero, List.set_cons_succ, List.getElem_toArray, List.getElem_cons_succ, List.getElem_cons_zero]
      refine wpAnyH_take (i := 13) (v := undef) rfl (by kernel_rfl) (by kernel_rfl) (by kernel_rfl) (fun _ _ _ h => h) (Or.inr ⟨by rfl, rfl⟩) hS ?_
      try simp only [Act.put, List.setIfInBounds_toArray, List.set_cons_zero, List.set_cons_succ, List.getElem_toArray, List.getElem_cons_succ, List.getElem_cons_zero]
      refine wpAnyH_take (i := 14) (v := undef) rfl (by kernel_rfl) (by kernel_rfl) (by kernel_rfl) (fun _ _ _ h => h) (Or.inr ⟨by rfl, rfl⟩) hS ?_
      try simp only [Act.put, List.setIfInBounds_toArray, List.set_cons_zero, List.set_cons_succ, List.getElem_toArray, List.getElem_cons_succ, List.getElem_cons_zero]
      refine wpAnyH_take (i := 15) (v := undef) rfl (by kernel_rfl) (by kernel_rfl) (by kernel_rfl) (fun _ _ _ h => h) (Or.inr ⟨by rfl, rfl⟩) hS ?_
      try simp only [Act.put, List.setIfInBounds_toArray, List.set_cons_zero, List.set_cons_succ, List.getElem_toArray, List.getElem_cons_succ, List.getElem_cons_zero]
      refine wpAnyH_take (i := 16) (v := undef) rfl (by kernel_rfl) (by kernel_rfl) (by kernel_rfl) (fun _ _ _ h => h) (Or.inr ⟨by rfl, rfl⟩) hS ?_
      try simp only [Act.put, List.setIfInBounds_toArray, List.set_cons_zero, List.set_cons_succ, List.getElem_toArray, List.getElem_cons_succ, List.getElem_cons_zero]
      refine wpAnyH_take (i := 17) (v := ?_) rfl (by kernel_rfl) (by kernel_rfl) (by kernel_rfl) (fun _ _ _ h => h) (Or.inl ⟨by rfl, ?_⟩) hS ?_
      rotate_left
      · intro wz hz; go_simp; try with_reducible rfl
      try simp only [Act.put, List.setIfInBounds_toArray, List.set_cons_zero, List.set_cons_succ, List.getElem_toArray, List.getElem_cons_succ, List.getElem_cons_zero]
      refine wpAnyH_done (by kernel_rfl) ?_ _
      have HZ0 := hid (st2T hS)
      have HZ := hid (St.mk (P := P8) HZ0.out.here HZ0.out.st)
      clear hS
      have ya0 := ka.out _ (kP8.out _ HZ.out.here)
      have yb0 := kb.out _ (kP8.out _ HZ.out.here)
      have HP := kP8
      go_wp2_with (first
        | (go_at_call 14; have := m4; refine (hMa.out _ (kB.out _ (kP8.out _ HZ.out.here))).mono ?_; rintro e v1 ⟨rfl, hv1⟩; have Y1 := hid (HZ.out.stays hv1); have ya1 := ka.out _ (kP8.out _ Y1.out.here); have yb1 := kb.out _ (kP8.out _ Y1.out.here); clear hv1 m4)
        | (go_at_call 13; refine (hLive.out _).mono ?_; rintro e v4 ⟨rfl, hv4⟩; have HE := hid (bl_tr (kB.out _ (kP8.out _ Y1.out.here)) hv4); clear hv4))
      go_ret
      exact ⟨rfl, HE.out⟩

set_option maxHeartbeats 16000000 in
set_option maxRecDepth 100000 in
theorem general_C2M1 (w : World) (nl : Nat) (ga gb : Int) (t y a b : Tp) (t1 a1 b1 kp lp : Option Addr) (t2 a2 b2 kc lc m : Nat) (keep : List Int) (l : List Tp) (hGe : Hid (∀ wz, Below w.heap.size w wz → Calls Try.prog 21 #[.agg #[.int .i64 t.k, .int .i64 t.n, .slice t1 t.ks.length t2], .slice kp keep.length kc] wz fun e w' => ∃ a5 n5 c5, e = .returned (.agg #[.int .i64 (m : Nat), .int .i64 y.k, .int .i64 y.n, .slice a5 y.ks.length c5]) ∧ TAt w' Any n5 [.int .i64 y.k, .int .i64 y.n, .slice a5 y.ks.length c5] y ∧ Below wz.heap.size wz w')) (hRi : Hid (∀ wz, Below w.heap.size w wz → Calls Try.prog 22 #[.agg #[.int .i64 t.k, .int .i64 t.n, .slice t1 t.ks.length t2]] wz fun e w' => e = .returned (.bool true) ∧ Below wz.heap.size wz w')) (g8 : Nat) (hGn : Hid (∀ wz, Below w.heap.size w wz → Calls Try.prog 23 #[.agg #[.int .i64 t.k, .int .i64 t.n, .slice t1 t.ks.length t2]] wz fun e w' => ∃ p q, e = .returned (.slice p 0 q) ∧ Below wz.heap.size wz w')) (hRS : Hid (∀ wz a5 n5 c5, TAt wz Any n5 [.int .i64 y.k, .int .i64 y.n, .slice a5 y.ks.length c5] y → Calls Try.prog 24 #[.agg #[.int .i64 (m : Nat), .int .i64 y.k, .int .i64 y.n, .slice a5 y.ks.length c5]] wz fun e w' => e = .returned (.bool true) ∧ Below wz.heap.size wz w')) (hlm : l.length ≤ 1048576) (hLl : Hid (∀ wz, Below w.heap.size w wz → TAtL wz Any nl (.slice lp l.length lc) l)) (hgood : Hid (l.all Tp.right = true)) (x : Tp) (q : Int) (hq : (q == 0) = false)  (hIn : Hid (∀ wz a5 n5 c5, Below w.heap.size w wz → TAt wz Any n5 [.int .i64 y.k, .int .i64 y.n, .slice a5 y.ks.length c5] y → Calls Try.prog 10 #[.agg #[.int .i64 (m : Nat), .int .i64 y.k, .int .i64 y.n, .slice a5 y.ks.length c5], .slice lp l.length lc] wz fun e w' => ∃ a6 n6 c6, e = .returned (.tuple #[.agg #[.int .i64 x.k, .int .i64 x.n, .slice a6 x.ks.length c6], .int .i64 q]) ∧ TAt w' Any n6 [.int .i64 x.k, .int .i64 x.n, .slice a6 x.ks.length c6] x ∧ Below wz.heap.size wz w')) (ml : List Tp) (hMa : Hid (∀ wz, Below w.heap.size w wz → Calls Try.prog 14 #[.agg #[.int .i64 ga, .int .i64 a.k, .int .i64 a.n, .slice a1 a.ks.length a2], .agg #[.int .i64 gb, .int .i64 b.k, .int .i64 b.n, .slice b1 b.ks.length b2]] wz fun e w' => ∃ p c N, e = .returned (.tuple #[.slice p ml.length c, .bool true]) ∧ TAtL w' Any N (.slice p ml.length c) ml ∧ Below wz.heap.size wz w')) (hI2 : Hid (∀ wz p c N, Below w.heap.size w wz → TAtL wz Any N (.slice p ml.length c) ml → Calls Try.prog 10 #[.agg #[.int .i64 ga, .int .i64 a.k, .int .i64 a.n, .slice a1 a.ks.length a2], .slice p ml.length c] wz fun e w' => ∃ a9 n9 c9, e = .returned (.tuple #[.agg #[.int .i64 b.k, .int .i64 b.n, .slice a9 b.ks.length c9], .int .i64 0]) ∧ TAt w' Any n9 [.int .i64 b.k, .int .i64 b.n, .slice a9 b.ks.length c9] b ∧ Below wz.heap.size wz w')) (hSa : Hid (∀ wz a9 n9 c9, Below w.heap.size w wz → TAt wz Any n9 [.int .i64 b.k, .int .i64 b.n, .slice a9 b.ks.length c9] b → Calls Try.prog 26 #[.agg #[.int .i64 b.k, .int .i64 b.n, .slice a9 b.ks.length c9], .agg #[.int .i64 b.k, .int .i64 b.n, .slice b1 b.ks.length b2]] wz fun e w' => e = .returned (.bool true) ∧ Below wz.heap.size wz w')) (hLive : Hid (∀ wz, Calls Try.prog 13 #[] wz fun e w' => e = .returned (.bool true) ∧ Below wz.heap.size wz w')) :
    Calls Try.prog 5 #[.agg #[.int .i64 t.k, .int .i64 t.n, .slice t1 t.ks.length t2], .slice kp keep.length kc, .slice lp l.length lc, .agg #[.int .i64 ga, .int .i64 a.k, .int .i64 a.n, .slice a1 a.ks.length a2], .agg #[.int .i64 gb, .int .i64 b.k, .int .i64 b.n, .slice b1 b.ks.length b2]] w fun e w' => e = .returned (.bool true) ∧ Below w.heap.size w w' := by
  have Z := hid (((st_new w).stays (bl_alloc (bl_alloc (bl_alloc (Below.refl _ _) (.cells #[.int .i64 t.k, .int .i64 t.n, .slice t1 t.ks.length t2] 24)) (.cells #[.int .i64 ga, .int .i64 a.k, .int .i64 a.n, .slice a1 a.ks.length a2] 26)) (.cells #[.int .i64 gb, .int .i64 b.k, .int .i64 b.n, .slice b1 b.ks.length b2] 26))).addA (b := w.heap.size) (T := 24) (cur := [.int .i64 t.k, .int .i64 t.n, .slice t1 t.ks.length t2]) (Arr.stays (Arr.stays ⟨heap_alloc_at _ _⟩ (bl_alloc (Below.refl _ _) _)) (bl_alloc (Below.refl _ _) _)))
  have Z := hid (Z.out.addA (b := w.heap.size + 1) (T := 26) (cur := [.int .i64 ga, .int .i64 a.k, .int .i64 a.n, .slice a1 a.ks.length a2]) (Arr.stays ⟨by have := heap_alloc_at (w.alloc (.cells #[.int .i64 t.k, .int .i64 t.n, .slice t1 t.ks.length t2] 24)) (.cells #[.int .i64 ga, .int .i64 a.k, .int .i64 a.n, .slice a1 a.ks.length a2] 26); rw [size_alloc] at this; exact this⟩ (bl_alloc (Below.refl _ _) _)))
  have Z := hid (Z.out.addA (b := w.heap.size + 1 + 1) (T := 26) (cur := [.int .i64 gb, .int .i64 b.k, .int .i64 b.n, .slice b1 b.ks.length b2]) ⟨by have := heap_alloc_at ((w.alloc (.cells #[.int .i64 t.k, .int .i64 t.n, .slice t1 t.ks.length t2] 24)).alloc (.cells #[.int .i64 ga, .int .i64 a.k, .int .i64 a.n, .slice a1 a.ks.length a2] 26)) (.cells #[.int .i64 gb, .int .i64 b.k, .int .i64 b.n, .slice b1 b.ks.length b2] 26); rw [size_alloc, size_alloc] at this; exact this⟩)
  obtain ⟨P, Z, kt, ka, kb, kB⟩ : ∃ P : World → Prop, Hid (St P (((w.alloc (.cells #[.int .i64 t.k, .int .i64 t.n, .slice t1 t.ks.length t2] 24)).alloc (.cells #[.int .i64 ga, .int .i64 a.k, .int .i64 a.n, .slice a1 a.ks.length a2] 26)).alloc (.cells #[.int .i64 gb, .int .i64 b.k, .int .i64 b.n, .slice b1 b.ks.length b2] 26))) ∧ Hid (∀ W, P W → ∀ j : Nat, W.cell? ⟨w.heap.size, j, none⟩ = [.int .i64 t.k, .int .i64 t.n, .slice t1 t.ks.length t2][j]?) ∧ Hid (∀ W, P W → ∀ j : Nat, W.cell? ⟨w.heap.size + 1, j, none⟩ = [.int .i64 ga, .int .i64 a.k, .int .i64 a.n, .slice a1 a.ks.length a2][j]?) ∧ Hid (∀ W, P W → ∀ j : Nat, W.cell? ⟨w.heap.size + 1 + 1, j, none⟩ = [.int .i64 gb, .int .i64 b.k, .int .i64 b.n, .slice b1 b.ks.length b2][j]?) ∧ Hid (∀ W, P W → Below w.heap.size w W) :=
    ⟨_, Z, fun W h => h.1.1.2.cell, fun W h => h.1.2.cell, fun W h => h.2.cell, fun W h => h.1.1.1⟩
  have m1 : Hid True := trivial
  have m2 : Hid True := trivial
  have m3 : Hid True := trivial
  have m4 : Hid True := trivial
  have m5 : Hid True := trivial
  have m6 : Hid True := trivial
  have m7 : Hid True := trivial
  have m8 : Hid True := trivial
  go_enter Try.func5, Try.ntmps5
  go_wp2_with (first
    | (go_at_call 21; refine (hGe.out _ (kB.out _ Z.out.here)).mono ?_; rintro e w1 ⟨a5, n5, c5, rfl, hT1, hb1⟩; have Z1 := hid ((Z.out.stays hb1).addT hT1); have HT1 := hid hT1; have xt1 := fun o => kt.out _ (Z1.out.stays (bl_alloc (Below.refl _ _) o)).here.1; clear hb1 hT1)
    | (go_at_call 22; have := m1; refine (hRi.out _ (bl_alloc (kB.out _ Z1.out.here.1) _)).mono ?_; rintro e w2 ⟨rfl, hb2⟩; have Z2 := hid (((Z1.out.stays (bl_alloc (Below.refl _ _) (.cells #[.int .i64 (m : Nat), .int .i64 y.k, .int .i64 y.n, .slice a5 y.ks.length c5] 26))).addA (b := w1.heap.size) (T := 26) (cur := [.int .i64 (m : Nat), .int .i64 y.k, .int .i64 y.n, .slice a5 y.ks.length c5]) ⟨heap_alloc_at _ _⟩).stays hb2); have xt2 := kt.out _ Z2.out.here.1.1; have xs2 := Z2.out.here.2.cell; have xa2 := ka.out _ Z2.out.here.1.1; have xb2 := kb.out _ Z2.out.here.1.1; clear hb2 m1)
    | (go_at_call 23; have := m2; refine (hGn.out _ (kB.out _ Z2.out.here.1.1)).mono ?_; rintro e w3 ⟨p3, q3, rfl, hb3⟩; have Z3 := hid (Z2.out.stays hb3); have xs3 := Z3.out.here.2.cell; have xa3 := ka.out _ Z3.out.here.1.1; have xb3 := kb.out _ Z3.out.here.1.1; clear hb3 m2)
    | (go_at_call 24; have := m3; refine (hRS.out _ _ _ _ Z3.out.here.1.2).mono ?_; rintro e w4 ⟨rfl, hb4⟩; have Z4 := hid (Z3.out.stays hb4); have xs4 := Z4.out.here.2.cell; clear hb4 m3))
  obtain ⟨P4, Y4, kP, k5, k6⟩ : ∃ P4 : World → Prop, Hid (St P4 w4) ∧ Hid (∀ W, P4 W → P W) ∧ Hid (∀ W, P4 W → TAt W Any n5 [.int .i64 y.k, .int .i64 y.n, .slice a5 y.ks.length c5] y) ∧ Hid (∀ W, P4 W → ∀ j : Nat, W.cell? ⟨w1.heap.size, j, none⟩ = [.int .i64 (m : Nat), .int .i64 y.k, .int .i64 y.n, .slice a5 y.ks.length c5][j]?) := ⟨_, Z4, fun W h => h.1.1, fun W h => h.1.2, fun W h => h.2.cell⟩
  clear xt1 xt2 xs2 xa2 xb2 xs3 xa3 xb3 xs4 Z Z1 Z2 Z3 Z4 HT1
  go_loopw [12, 13] (fun v12 v13 wr => ∃ (gd : Bool) (k : Nat), v12 = .bool gd ∧ v13 = .int .i64 k ∧ k ≤ l.length ∧ Hid ((l.take k).all Tp.right = gd) ∧ Hid (St P4 wr)) (fun _ v13 _ => l.length - (intOf v13).toNat)
  case atStart => exact ⟨true, 0, rfl, rfl, Nat.zero_le _, by show _ = _; simp, Y4⟩
  case round =>
    obtain ⟨gd, k, rfl, rfl, hk, hH, hZ⟩ := hrel
    by_cases hlt : k < l.length
    · obtain ⟨e0, he0⟩ : ∃ e0, l[k]? = some e0 := ⟨_, List.getElem?_eq_getElem hlt⟩
      have htk : l.take (k + 1) = l.take k ++ [e0] := by rw [List.take_add_one, he0]; rfl
      cases gd with
      | false =>
        have HY : Hid ((l.take (k + 1)).all Tp.right = false) := by show _ = _; rw [htk, List.all_append, hH.out]; rfl
        clear hH he0 htk
        go_wp2
        go_roundw
        case rel => exact ⟨false, k + 1, rfl, by go_num, by omega, HY, hZ⟩
        case measure => simp [intOf]; omega
      | true =>
        obtain ⟨be, oe, ce, hv, -⟩ := (hLl.out _ (kB.out _ (kP.out _ hZ.out.here))).resolve_right (fun h => by rw [h.1] at hlt; exact absurd hlt (Nat.not_lt_zero _))
        injection hv with e1 e2 e3
        subst e1
        obtain ⟨ve, te, x0, x1, x2, -, -⟩ := (hLl.out _ (kB.out _ (kP.out _ hZ.out.here))).elem he0
        obtain ⟨ae, cE, ee⟩ := te.form
        simp only [List.cons.injEq, and_true, true_and] at ee
        subst ee
        have hQ := hid (Right_any _ _ _ e0 te)
        have HY : Hid ((l.take (k + 1)).all Tp.right = e0.right) := by show _ = _; rw [htk, List.all_append, hH.out]; simp
        generalize e0.right = er at hQ HY
        clear hH he0 htk te e2 e3
        go_wp2_with (go_at_call 22; refine hQ.out.mono ?_; rintro e w6 ⟨rfl, hb6⟩; have Z6 := hid (hZ.out.stays hb6); clear hb6)
        go_roundw
        case rel => exact ⟨er, k + 1, by simp, by go_num, by omega, HY, Z6⟩
        case measure => simp [intOf]; omega
    · obtain rfl : k = l.length := by omega
      have hgd : gd = true := by rw [← hH.out, List.take_length]; exact hgood.out
      subst hgd
      have xs6 := k6.out _ hZ.out.here
      clear hH Y4
      go_wp2_with (go_at_call 10; refine (hIn.out _ _ _ _ (kB.out _ (kP.out _ hZ.out.here)) (k5.out _ hZ.out.here)).mono ?_; rintro e w7 ⟨a6, n6, c6, rfl, hT7, hb7⟩; have Z7 := hid ((hZ.out.stays hb7).addT hT7); clear hb7 hT7)
      obtain ⟨W8, hW8⟩ : ∃ W8, w7.alloc (.cells #[.int .i64 x.k, .int .i64 x.n, .slice a6 x.ks.length c6] 24) = W8 := ⟨_, rfl⟩
      have Z8 := hid ((Z7.out.stays (bl_alloc (Below.refl _ _) (.cells #[.int .i64 x.k, .int .i64 x.n, .slice a6 x.ks.length c6] 24))).addA (b := w7.heap.size) (T := 24) (cur := [.int .i64 x.k, .int .i64 x.n, .slice a6 x.ks.length c6]) ⟨heap_alloc_at _ _⟩)
      rw [hW8] at Z8 ⊢
      obtain ⟨P8, b8, e8, Y8, kP8, k58, k68, k78, k98⟩ : ∃ (P8 : World → Prop) (b8 : Nat), b8 = w7.heap.size ∧ Hid (St P8 W8) ∧ Hid (∀ W, P8 W → P W) ∧ Hid (∀ W, P8 W → TAt W Any n5 [.int .i64 y.k, .int .i64 y.n, .slice a5 y.ks.length c5] y) ∧ Hid (∀ W, P8 W → ∀ j : Nat, W.cell? ⟨w1.heap.size, j, none⟩ = [.int .i64 (m : Nat), .int .i64 y.k, .int .i64 y.n, .slice a5 y.ks.length c5][j]?) ∧ Hid (∀ W, P8 W → TAt W Any n6 [.int .i64 x.k, .int .i64 x.n, .slice a6 x.ks.length c6] x) ∧ Hid (∀ W, P8 W → ∀ j : Nat, W.cell? ⟨b8, j, none⟩ = [.int .i64 x.k, .int .i64 x.n, .slice a6 x.ks.length c6][j]?) := ⟨_, _, rfl, Z8, fun W h => kP.out W h.1.1, fun W h => k5.out W h.1.1, fun W h => k6.out W h.1.1, fun W h => h.1.2, fun W h => h.2.cell⟩
      rw [← e8]
      have mkS : Hid (∀ wz, St P8 wz → (∀ j : Nat, wz.cell? ⟨w1.heap.size, j, none⟩ = [.int .i64 (m : Nat), .int .i64 y.k, .int .i64 y.n, .slice a5 y.ks.length c5][j]?) ∧ (∀ j : Nat, wz.cell? ⟨b8, j, none⟩ = [.int .i64 x.k, .int .i64 x.n, .slice a6 x.ks.length c6][j]?) ∧ St P8 wz) := fun wz h => ⟨k68.out wz h.here, k98.out wz h.here, h⟩
      have hs0 := hid (mkS.out _ (Y8.out.stays (Below.refl _ _).drew))
      clear e8 hW8 Z8 Z7 xs6 hZ
      refine wp_region_held_drew (S := fun wz => (∀ j : Nat, wz.cell? ⟨w1.heap.size, j, none⟩ = [.int .i64 (m : Nat), .int .i64 y.k, .int .i64 y.n, .slice a5 y.ks.length c5][j]?) ∧ (∀ j : Nat, wz.cell? ⟨b8, j, none⟩ = [.int .i64 x.k, .int .i64 x.n, .slice a6 x.ks.length c6][j]?) ∧ St P8 wz) (by kernel_rfl) (hs0.out) (fun hS => ?_)
      refine wpAnyH_take (i := 0) (v := ?_) rfl (by kernel_rfl) (by kernel_rfl) (by kernel_rfl) (fun _ _ _ h => h) (Or.inl ⟨by rfl, ?_⟩) hS ?_
      rotate_left
      · intro wz hz; go_simp; try with_reducible rfl
      try simp only [Act.put, List.setIfInBounds_toArray, List.set_cons_zero, List.set_cons_succ, List.getElem_toArray, List.getElem_cons_succ, List.getElem_cons_zero]
      refine wpAnyH_take (i := 1) (v := ?_) rfl (by kernel_rfl) (by kernel_rfl) (by kernel_rfl) (fun _ _ _ h => h) (Or.inl ⟨by rfl, ?_⟩) hS ?_
      rotate_left
      · intro wz hz; go_simp; try with_reducible rfl
      try simp only [Act.put, List.setIfInBounds_toArray, List.set_cons_zero, List.set_cons_succ, List.getElem_toArray, List.getElem_cons_succ, List.getElem_cons_zero]
      refine wpAnyH_take (i := 2) (v := ?_) rfl (by kernel_rfl) (by kernel_rfl) (by kernel_rfl) (fun _ _ _ h => h) (Or.inl ⟨by rfl, ?_⟩) hS ?_
      rotate_left
      · intro wz hz; go_simp; try with_reducible rfl
      try simp only [Act.put, List.setIfInBounds_toArray, List.set_cons_zero, List.set_cons_succ, List.getElem_toArray, List.getElem_cons_succ, List.getElem_cons_zero]
      refine wpAnyH_take (i := 3) (v := ?_) rfl (by kernel_rfl) (by kernel_rfl) (by kernel_rfl) (fun _ _ _ h => h) (Or.inl ⟨by rfl, ?_⟩) hS ?_
      rotate_left
      · intro wz hz; go_simp; try with_reducible rfl
      try simp only [Act.put, List.setIfInBounds_toArray, List.set_cons_zero, List.set_cons_succ, List.getElem_toArray, List.getElem_cons_succ, List.getElem_cons_zero]
      refine wpAnyH_take (i := 4) (v := ?_) rfl (by kernel_rfl) (by kernel_rfl) (by kernel_rfl) (fun _ _ _ h => h) (Or.inl ⟨by rfl, ?_⟩) hS ?_
      rotate_left
      · intro wz hz; go_simp; try with_reducible rfl
      try simp only [Act.put, List.setIfInBounds_toArray, List.set_cons_zero, List.set_cons_succ, List.getElem_toArray, List.getElem_cons_succ, List.getElem_cons_zero]
      refine wpAnyH_take (i := 5) (v := ?_) rfl (by kernel_rfl) (by kernel_rfl) (by kernel_rfl) (fun _ _ _ h => h) (Or.inl ⟨by rfl, ?_⟩) hS ?_
      rotate_left
      · intro wz hz; go_simp; try with_reducible rfl
      try simp only [Act.put, List.setIfInBounds_toArray, List.set_cons_zero, List.set_cons_succ, List.getElem_toArray, List.getElem_cons_succ, List.getElem_cons_zero]
      refine wpAnyH_take (i := 6) (v := undef) rfl (by kernel_rfl) (by kernel_rfl) (by kernel_rfl) (fun _ _ _ h => h) (Or.inr ⟨by rfl, rfl⟩) hS ?_
      try simp only [Act.put, List.setIfInBounds_toArray, List.set_cons_zero, List.set_cons_succ, List.getElem_toArray, List.getElem_cons_succ, List.getElem_cons_zero]
      refine wpAnyH_take (i := 7) (v := undef) rfl (by kernel_rfl) (by kernel_rfl) (by kernel_rfl) (fun _ _ _ h => h) (Or.inr ⟨by rfl, rfl⟩) hS ?_
      try simp only [Act.put, List.setIfInBounds_toArray, List.set_cons_zero, List.set_cons_succ, List.getElem_toArray, List.getElem_cons_succ, List.getElem_cons_zero]
      refine wpAnyH_take (i := 8) (v := undef) rfl (by kernel_rfl) (by kernel_rfl) (by kernel_rfl) (fun _ _ _ h => h) (Or.inr ⟨by rfl, rfl⟩) hS ?_
      try simp only [Act.put, List.setIfInBounds_toArray, List.set_cons_zero, List.set_cons_succ, List.getElem_toArray, List.getElem_cons_succ, List.getElem_cons_zero]
      refine wpAnyH_take (i := 9) (v := undef) rfl (by kernel_rfl) (by kernel_rfl) (by kernel_rfl) (fun _ _ _ h => h) (Or.inr ⟨by rfl, rfl⟩) hS ?_
      try simp only [Act.put, List.setIfInBounds_toArray, List.set_cons_zero, List.set_cons_succ, List.getElem_toArray, List.getElem_cons_succ, List.getElem_cons_zero]
      refine wpAnyH_take (i := 10) (v := ?_) rfl (by kernel_rfl) (by kernel_rfl) (by kernel_rfl) (fun _ _ _ h => h) (Or.inl ⟨by rfl, ?_⟩) hS ?_
      rotate_left
      · intro wz hz; go_simp; try with_reducible rfl
      try simp only [Act.put, List.setIfInBounds_toArray, List.set_cons_zero, List.set_cons_succ, List.getElem_toArray, List.getElem_cons_succ, List.getElem_cons_zero]
      refine wpAnyH_take (i := 11) (v := ?_) rfl (by kernel_rfl) (by kernel_rfl) (by kernel_rfl) (fun _ _ _ h => h) (Or.inl ⟨by rfl, ?_⟩) hS ?_
      rotate_left
      · intro wz hz; go_simp; try with_reducible rfl
      try simp only [Act.put, List.setIfInBounds_toArray, List.set_cons_zero, List.set_cons_succ, List.getElem_toArray, List.getElem_cons_succ, List.getElem_cons_zero]
      refine wpAnyH_take (i := 12) (v := undef) rfl (by kernel_rfl) (by kernel_rfl) (by kernel_rfl) (fun _ _ _ h => h) (Or.inr ⟨by rfl, rfl⟩) hS ?_
      try simp only [Act.put, List.setIfInBounds_toArray, List.set_cons_zero, List.set_cons_succ, List.getElem_toArray, List.getElem_cons_succ, List.getElem_cons_zero]
      refine wpAnyH_take (i := 13) (v := undef) rfl (by kernel_rfl) (by kernel_rfl) (by kernel_rfl) (fun _ _ _ h => h) (Or.inr ⟨by rfl, rfl⟩) hS ?_
      try simp only [Act.put, List.setIfInBounds_toArray, List.set_cons_zero, List.set_cons_succ, List.getElem_toArray, List.getElem_cons_succ, List.getElem_cons_zero]
      refine wpAnyH_take (i := 14) (v := undef) rfl (by kernel_rfl) (by kernel_rfl) (by kernel_rfl) (fun _ _ _ h => h) (Or.inr ⟨by rfl, rfl⟩) hS ?_
      try simp only [Act.put, List.setIfInBounds_toArray, List.set_cons_zero, List.set_cons_succ, List.getElem_toArray, List.getElem_cons_succ, List.getElem_cons_zero]
      refine wpAnyH_take (i := 15) (v := undef) rfl (by kernel_rfl) (by kernel_rfl) (by kernel_rfl) (fun _ _ _ h => h) (Or.inr ⟨by rfl, rfl⟩) hS ?_
      try simp only [Act.put, List.setIfInBounds_toArray, List.set_cons_zero, List.set_cons_succ, List.getElem_toArray, List.getElem_cons_succ, List.getElem_cons_zero]
      refine wpAnyH_take (i := 16) (v := undef) rfl (by kernel_rfl) (by kernel_rfl) (by kernel_rfl) (fun _ _ _ h => h) (Or.inr ⟨by rfl, rfl⟩) hS ?_
      try simp only [Act.put, List.setIfInBounds_toArray, List.set_cons_zero, List.set_cons_succ, List.getElem_toArray, List.getElem_cons_succ, List.getElem_cons_zero]
      refine wpAnyH_take (i := 17) (v := ?_) rfl (by kernel_rfl) (by kernel_rfl) (by kernel_rfl) (fun _ _ _ h => h) (Or.inl ⟨by rfl, ?_⟩) hS ?_
      rotate_left
      · intro wz hz; go_simp; try with_reducible rfl
      try simp only [Act.put, List.setIfInBounds_toArray, List.set_cons_zero, List.set_cons_succ, List.getElem_toArray, List.getElem_cons_succ, List.getElem_cons_zero]
      refine wpAnyH_done (by kernel_rfl) ?_ _
      have HZ0 := hid (st2T hS)
      have HZ := hid (St.mk (P := P8) HZ0.out.here HZ0.out.st)
      clear hS
      have ya0 := ka.out _ (kP8.out _ HZ.out.here)
      have yb0 := kb.out _ (kP8.out _ HZ.out.here)
      have HP := kP8
      go_wp2_with (first
        | (go_at_call 14; have := m4; refine (hMa.out _ (kB.out _ (kP8.out _ HZ.out.here))).mono ?_; rintro e v1 ⟨p1, q1, N1, rfl, hL1, hv1⟩; have HL1 := hid hL1; clear hL1; have Y1 := hid (HZ.out.stays hv1); have ya1 := ka.out _ (kP8.out _ Y1.out.here); have yb1 := kb.out _ (kP8.out _ Y1.out.here); clear hv1 m4)
        | (go_at_call 10; have := m5; refine (hI2.out _ _ _ _ (kB.out _ (kP8.out _ Y1.out.here)) HL1.out).mono ?_; rintro e v2 ⟨a9, n9, c9, rfl, hT9, hv2⟩; have Y2 := hid (Y1.out.stays hv2); have HT9 := hid hT9; have yb2 := kb.out _ (kP8.out _ (Y2.out.stays (bl_alloc (Below.refl _ _) (.cells #[.int .i64 b.k, .int .i64 b.n, .slice a9 b.ks.length c9] 24))).here); clear hv2 hT9 m5)
        | (go_at_call 26; have := m6; refine (hSa.out _ _ _ _ (bl_alloc (kB.out _ (kP8.out _ Y2.out.here)) _) (HT9.out.below (bl_alloc (Below.refl _ _) _))).mono ?_; rintro e v3 ⟨rfl, hv3⟩; have Y3 := hid ((Y2.out.stays (bl_alloc (Below.refl _ _) _)).stays hv3); clear hv3 m6)
        | (go_at_call 13; refine (hLive.out _).mono ?_; rintro e v4 ⟨rfl, hv4⟩; have HE := hid (bl_tr (kB.out _ (kP8.out _ Y3.out.here)) hv4); clear hv4))
      go_ret
      exact ⟨rfl, HE.out⟩

set_option maxHeartbeats 16000000 in
set_option maxRecDepth 100000 in
theorem general_C2M2 (w : World) (nl : Nat) (ga gb : Int) (t y a b : Tp) (t1 a1 b1 kp lp : Option Addr) (t2 a2 b2 kc lc m : Nat) (keep : List Int) (l : List Tp) (hGe : Hid (∀ wz, Below w.heap.size w wz → Calls Try.prog 21 #[.agg #[.int .i64 t.k, .int .i64 t.n, .slice t1 t.ks.length t2], .slice kp keep.length kc] wz fun e w' => ∃ a5 n5 c5, e = .returned (.agg #[.int .i64 (m : Nat), .int .i64 y.k, .int .i64 y.n, .slice a5 y.ks.length c5]) ∧ TAt w' Any n5 [.int .i64 y.k, .int .i64 y.n, .slice a5 y.ks.length c5] y ∧ Below wz.heap.size wz w')) (hRi : Hid (∀ wz, Below w.heap.size w wz → Calls Try.prog 22 #[.agg #[.int .i64 t.k, .int .i64 t.n, .slice t1 t.ks.length t2]] wz fun e w' => e = .returned (.bool true) ∧ Below wz.heap.size wz w')) (g8 : Nat) (hGn : Hid (∀ wz, Below w.heap.size w wz → Calls Try.prog 23 #[.agg #[.int .i64 t.k, .int .i64 t.n, .slice t1 t.ks.length t2]] wz fun e w' => ∃ p q, e = .returned (.slice p 0 q) ∧ Below wz.heap.size wz w')) (hRS : Hid (∀ wz a5 n5 c5, TAt wz Any n5 [.int .i64 y.k, .int .i64 y.n, .slice a5 y.ks.length c5] y → Calls Try.prog 24 #[.agg #[.int .i64 (m : Nat), .int .i64 y.k, .int .i64 y.n, .slice a5 y.ks.length c5]] wz fun e w' => e = .returned (.bool true) ∧ Below wz.heap.size wz w')) (hlm : l.length ≤ 1048576) (hLl : Hid (∀ wz, Below w.heap.size w wz → TAtL wz Any nl (.slice lp l.length lc) l)) (hgood : Hid (l.all Tp.right = true)) (x : Tp) (q : Int) (hq : (q == 0) = false)  (hIn : Hid (∀ wz a5 n5 c5, Below w.heap.size w wz → TAt wz Any n5 [.int .i64 y.k, .int .i64 y.n, .slice a5 y.ks.length c5] y → Calls Try.prog 10 #[.agg #[.int .i64 (m : Nat), .int .i64 y.k, .int .i64 y.n, .slice a5 y.ks.length c5], .slice lp l.length lc] wz fun e w' => ∃ a6 n6 c6, e = .returned (.tuple #[.agg #[.int .i64 x.k, .int .i64 x.n, .slice a6 x.ks.length c6], .int .i64 q]) ∧ TAt w' Any n6 [.int .i64 x.k, .int .i64 x.n, .slice a6 x.ks.length c6] x ∧ Below wz.heap.size wz w')) (ml : List Tp) (hMa : Hid (∀ wz, Below w.heap.size w wz → Calls Try.prog 14 #[.agg #[.int .i64 ga, .int .i64 a.k, .int .i64 a.n, .slice a1 a.ks.length a2], .agg #[.int .i64 gb, .int .i64 b.k, .int .i64 b.n, .slice b1 b.ks.length b2]] wz fun e w' => ∃ p c N, e = .returned (.tuple #[.slice p ml.length c, .bool true]) ∧ TAtL w' Any N (.slice p ml.length c) ml ∧ Below wz.heap.size wz w')) (hI2 : Hid (∀ wz p c N, Below w.heap.size w wz → TAtL wz Any N (.slice p ml.length c) ml → Calls Try.prog 10 #[.agg #[.int .i64 ga, .int .i64 a.k, .int .i64 a.n, .slice a1 a.ks.length a2], .slice p ml.length c] wz fun e w' => ∃ (a9 : Option Addr) (c9 : Nat), e = .returned (.tuple #[.agg #[.int .i64 0, .int .i64 0, .slice a9 0 c9], .int .i64 3]) ∧ Below wz.heap.size wz w')) (hFi : Hid (∀ wz, Below w.heap.size w wz → Calls Try.prog 27 #[.agg #[.int .i64 b.k, .int .i64 b.n, .slice b1 b.ks.length b2]] wz fun e w' => e = .returned (.bool false) ∧ Below wz.heap.size wz w')) (hLive : Hid (∀ wz, Calls Try.prog 13 #[] wz fun e w' => e = .returned (.bool true) ∧ Below wz.heap.size wz w')) :
    Calls Try.prog 5 #[.agg #[.int .i64 t.k, .int .i64 t.n, .slice t1 t.ks.length t2], .slice kp keep.length kc, .slice lp l.length lc, .agg #[.int .i64 ga, .int .i64 a.k, .int .i64 a.n, .slice a1 a.ks.length a2], .agg #[.int .i64 gb, .int .i64 b.k, .int .i64 b.n, .slice b1 b.ks.length b2]] w fun e w' => e = .returned (.bool true) ∧ Below w.heap.size w w' := by
  have Z := hid (((st_new w).stays (bl_alloc (bl_alloc (bl_alloc (Below.refl _ _) (.cells #[.int .i64 t.k, .int .i64 t.n, .slice t1 t.ks.length t2] 24)) (.cells #[.int .i64 ga, .int .i64 a.k, .int .i64 a.n, .slice a1 a.ks.length a2] 26)) (.cells #[.int .i64 gb, .int .i64 b.k, .int .i64 b.n, .slice b1 b.ks.length b2] 26))).addA (b := w.heap.size) (T := 24) (cur := [.int .i64 t.k, .int .i64 t.n, .slice t1 t.ks.length t2]) (Arr.stays (Arr.stays ⟨heap_alloc_at _ _⟩ (bl_alloc (Below.refl _ _) _)) (bl_alloc (Below.refl _ _) _)))
  have Z := hid (Z.out.addA (b := w.heap.size + 1) (T := 26) (cur := [.int .i64 ga, .int .i64 a.k, .int .i64 a.n, .slice a1 a.ks.length a2]) (Arr.stays ⟨by have := heap_alloc_at (w.alloc (.cells #[.int .i64 t.k, .int .i64 t.n, .slice t1 t.ks.length t2] 24)) (.cells #[.int .i64 ga, .int .i64 a.k, .int .i64 a.n, .slice a1 a.ks.length a2] 26); rw [size_alloc] at this; exact this⟩ (bl_alloc (Below.refl _ _) _)))
  have Z := hid (Z.out.addA (b := w.heap.size + 1 + 1) (T := 26) (cur := [.int .i64 gb, .int .i64 b.k, .int .i64 b.n, .slice b1 b.ks.length b2]) ⟨by have := heap_alloc_at ((w.alloc (.cells #[.int .i64 t.k, .int .i64 t.n, .slice t1 t.ks.length t2] 24)).alloc (.cells #[.int .i64 ga, .int .i64 a.k, .int .i64 a.n, .slice a1 a.ks.length a2] 26)) (.cells #[.int .i64 gb, .int .i64 b.k, .int .i64 b.n, .slice b1 b.ks.length b2] 26); rw [size_alloc, size_alloc] at this; exact this⟩)
  obtain ⟨P, Z, kt, ka, kb, kB⟩ : ∃ P : World → Prop, Hid (St P (((w.alloc (.cells #[.int .i64 t.k, .int .i64 t.n, .slice t1 t.ks.length t2] 24)).alloc (.cells #[.int .i64 ga, .int .i64 a.k, .int .i64 a.n, .slice a1 a.ks.length a2] 26)).alloc (.cells #[.int .i64 gb, .int .i64 b.k, .int .i64 b.n, .slice b1 b.ks.length b2] 26))) ∧ Hid (∀ W, P W → ∀ j : Nat, W.cell? ⟨w.heap.size, j, none⟩ = [.int .i64 t.k, .int .i64 t.n, .slice t1 t.ks.length t2][j]?) ∧ Hid (∀ W, P W → ∀ j : Nat, W.cell? ⟨w.heap.size + 1, j, none⟩ = [.int .i64 ga, .int .i64 a.k, .int .i64 a.n, .slice a1 a.ks.length a2][j]?) ∧ Hid (∀ W, P W → ∀ j : Nat, W.cell? ⟨w.heap.size + 1 + 1, j, none⟩ = [.int .i64 gb, .int .i64 b.k, .int .i64 b.n, .slice b1 b.ks.length b2][j]?) ∧ Hid (∀ W, P W → Below w.heap.size w W) :=
    ⟨_, Z, fun W h => h.1.1.2.cell, fun W h => h.1.2.cell, fun W h => h.2.cell, fun W h => h.1.1.1⟩
  have m1 : Hid True := trivial
  have m2 : Hid True := trivial
  have m3 : Hid True := trivial
  have m4 : Hid True := trivial
  have m5 : Hid True := trivial
  have m6 : Hid True := trivial
  have m7 : Hid True := trivial
  have m8 : Hid True := trivial
  go_enter Try.func5, Try.ntmps5
  go_wp2_with (first
    | (go_at_call 21; refine (hGe.out _ (kB.out _ Z.out.here)).mono ?_; rintro e w1 ⟨a5, n5, c5, rfl, hT1, hb1⟩; have Z1 := hid ((Z.out.stays hb1).addT hT1); have HT1 := hid hT1; have xt1 := fun o => kt.out _ (Z1.out.stays (bl_alloc (Below.refl _ _) o)).here.1; clear hb1 hT1)
    | (go_at_call 22; have := m1; refine (hRi.out _ (bl_alloc (kB.out _ Z1.out.here.1) _)).mono ?_; rintro e w2 ⟨rfl, hb2⟩; have Z2 := hid (((Z1.out.stays (bl_alloc (Below.refl _ _) (.cells #[.int .i64 (m : Nat), .int .i64 y.k, .int .i64 y.n, .slice a5 y.ks.length c5] 26))).addA (b := w1.heap.size) (T := 26) (cur := [.int .i64 (m : Nat), .int .i64 y.k, .int .i64 y.n, .slice a5 y.ks.length c5]) ⟨heap_alloc_at _ _⟩).stays hb2); have xt2 := kt.out _ Z2.out.here.1.1; have xs2 := Z2.out.here.2.cell; have xa2 := ka.out _ Z2.out.here.1.1; have xb2 := kb.out _ Z2.out.here.1.1; clear hb2 m1)
    | (go_at_call 23; have := m2; refine (hGn.out _ (kB.out _ Z2.out.here.1.1)).mono ?_; rintro e w3 ⟨p3, q3, rfl, hb3⟩; have Z3 := hid (Z2.out.stays hb3); have xs3 := Z3.out.here.2.cell; have xa3 := ka.out _ Z3.out.here.1.1; have xb3 := kb.out _ Z3.out.here.1.1; clear hb3 m2)
    | (go_at_call 24; have := m3; refine (hRS.out _ _ _ _ Z3.out.here.1.2).mono ?_; rintro e w4 ⟨rfl, hb4⟩; have Z4 := hid (Z3.out.stays hb4); have xs4 := Z4.out.here.2.cell; clear hb4 m3))
  obtain ⟨P4, Y4, kP, k5, k6⟩ : ∃ P4 : World → Prop, Hid (St P4 w4) ∧ Hid (∀ W, P4 W → P W) ∧ Hid (∀ W, P4 W → TAt W Any n5 [.int .i64 y.k, .int .i64 y.n, .slice a5 y.ks.length c5] y) ∧ Hid (∀ W, P4 W → ∀ j : Nat, W.cell? ⟨w1.heap.size, j, none⟩ = [.int .i64 (m : Nat), .int .i64 y.k, .int .i64 y.n, .slice a5 y.ks.length c5][j]?) := ⟨_, Z4, fun W h => h.1.1, fun W h => h.1.2, fun W h => h.2.cell⟩
  clear xt1 xt2 xs2 xa2 xb2 xs3 xa3 xb3 xs4 Z Z1 Z2 Z3 Z4 HT1
  go_loopw [12, 13] (fun v12 v13 wr => ∃ (gd : Bool) (k : Nat), v12 = .bool gd ∧ v13 = .int .i64 k ∧ k ≤ l.length ∧ Hid ((l.take k).all Tp.right = gd) ∧ Hid (St P4 wr)) (fun _ v13 _ => l.length - (intOf v13).toNat)
  case atStart => exact ⟨true, 0, rfl, rfl, Nat.zero_le _, by show _ = _; simp, Y4⟩
  case round =>
    obtain ⟨gd, k, rfl, rfl, hk, hH, hZ⟩ := hrel
    by_cases hlt : k < l.length
    · obtain ⟨e0, he0⟩ : ∃ e0, l[k]? = some e0 := ⟨_, List.getElem?_eq_getElem hlt⟩
      have htk : l.take (k + 1) = l.take k ++ [e0] := by rw [List.take_add_one, he0]; rfl
      cases gd with
      | false =>
        have HY : Hid ((l.take (k + 1)).all Tp.right = false) := by show _ = _; rw [htk, List.all_append, hH.out]; rfl
        clear hH he0 htk
        go_wp2
        go_roundw
        case rel => exact ⟨false, k + 1, rfl, by go_num, by omega, HY, hZ⟩
        case measure => simp [intOf]; omega
      | true =>
        obtain ⟨be, oe, ce, hv, -⟩ := (hLl.out _ (kB.out _ (kP.out _ hZ.out.here))).resolve_right (fun h => by rw [h.1] at hlt; exact absurd hlt (Nat.not_lt_zero _))
        injection hv with e1 e2 e3
        subst e1
        obtain ⟨ve, te, x0, x1, x2, -, -⟩ := (hLl.out _ (kB.out _ (kP.out _ hZ.out.here))).elem he0
        obtain ⟨ae, cE, ee⟩ := te.form
        simp only [List.cons.injEq, and_true, true_and] at ee
        subst ee
        have hQ := hid (Right_any _ _ _ e0 te)
        have HY : Hid ((l.take (k + 1)).all Tp.right = e0.right) := by show _ = _; rw [htk, List.all_append, hH.out]; simp
        generalize e0.right = er at hQ HY
        clear hH he0 htk te e2 e3
        go_wp2_with (go_at_call 22; refine hQ.out.mono ?_; rintro e w6 ⟨rfl, hb6⟩; have Z6 := hid (hZ.out.stays hb6); clear hb6)
        go_roundw
        case rel => exact ⟨er, k + 1, by simp, by go_num, by omega, HY, Z6⟩
        case measure => simp [intOf]; omega
    · obtain rfl : k = l.length := by omega
      have hgd : gd = true := by rw [← hH.out, List.take_length]; exact hgood.out
      subst hgd
      have xs6 := k6.out _ hZ.out.here
      clear hH Y4
      go_wp2_with (go_at_call 10; refine (hIn.out _ _ _ _ (kB.out _ (kP.out _ hZ.out.here)) (k5.out _ hZ.out.here)).mono ?_; rintro e w7 ⟨a6, n6, c6, rfl, hT7, hb7⟩; have Z7 := hid ((hZ.out.stays hb7).addT hT7); clear hb7 hT7)
      obtain ⟨W8, hW8⟩ : ∃ W8, w7.alloc (.cells #[.int .i64 x.k, .int .i64 x.n, .slice a6 x.ks.length c6] 24) = W8 := ⟨_, rfl⟩
      have Z8 := hid ((Z7.out.stays (bl_alloc (Below.refl _ _) (.cells #[.int .i64 x.k, .int .i64 x.n, .slice a6 x.ks.length c6] 24))).addA (b := w7.heap.size) (T := 24) (cur := [.int .i64 x.k, .int .i64 x.n, .slice a6 x.ks.length c6]) ⟨heap_alloc_at _ _⟩)
      rw [hW8] at Z8 ⊢
      obtain ⟨P8, b8, e8, Y8, kP8, k58, k68, k78, k98⟩ : ∃ (P8 : World → Prop) (b8 : Nat), b8 = w7.heap.size ∧ Hid (St P8 W8) ∧ Hid (∀ W, P8 W → P W) ∧ Hid (∀ W, P8 W → TAt W Any n5 [.int .i64 y.k, .int .i64 y.n, .slice a5 y.ks.length c5] y) ∧ Hid (∀ W, P8 W → ∀ j : Nat, W.cell? ⟨w1.heap.size, j, none⟩ = [.int .i64 (m : Nat), .int .i64 y.k, .int .i64 y.n, .slice a5 y.ks.length c5][j]?) ∧ Hid (∀ W, P8 W → TAt W Any n6 [.int .i64 x.k, .int .i64 x.n, .slice a6 x.ks.length c6] x) ∧ Hid (∀ W, P8 W → ∀ j : Nat, W.cell? ⟨b8, j, none⟩ = [.int .i64 x.k, .int .i64 x.n, .slice a6 x.ks.length c6][j]?) := ⟨_, _, rfl, Z8, fun W h => kP.out W h.1.1, fun W h => k5.out W h.1.1, fun W h => k6.out W h.1.1, fun W h => h.1.2, fun W h => h.2.cell⟩
      rw [← e8]
      have mkS : Hid (∀ wz, St P8 wz → (∀ j : Nat, wz.cell? ⟨w1.heap.size, j, none⟩ = [.int .i64 (m : Nat), .int .i64 y.k, .int .i64 y.n, .slice a5 y.ks.length c5][j]?) ∧ (∀ j : Nat, wz.cell? ⟨b8, j, none⟩ = [.int .i64 x.k, .int .i64 x.n, .slice a6 x.ks.length c6][j]?) ∧ St P8 wz) := fun wz h => ⟨k68.out wz h.here, k98.out wz h.here, h⟩
      have hs0 := hid (mkS.out _ (Y8.out.stays (Below.refl _ _).drew))
      clear e8 hW8 Z8 Z7 xs6 hZ
      refine wp_region_held_drew (S := fun wz => (∀ j : Nat, wz.cell? ⟨w1.heap.size, j, none⟩ = [.int .i64 (m : Nat), .int .i64 y.k, .int .i64 y.n, .slice a5 y.ks.length c5][j]?) ∧ (∀ j : Nat, wz.cell? ⟨b8, j, none⟩ = [.int .i64 x.k, .int .i64 x.n, .slice a6 x.ks.length c6][j]?) ∧ St P8 wz) (by kernel_rfl) (hs0.out) (fun hS => ?_)
      refine wpAnyH_take (i := 0) (v := ?_) rfl (by kernel_rfl) (by kernel_rfl) (by kernel_rfl) (fun _ _ _ h => h) (Or.inl ⟨by rfl, ?_⟩) hS ?_
      rotate_left
      · intro wz hz; go_simp; try with_reducible rfl
      try simp only [Act.put, List.setIfInBounds_toArray, List.set_cons_zero, List.set_cons_succ, List.getElem_toArray, List.getElem_cons_succ, List.getElem_cons_zero]
      refine wpAnyH_take (i := 1) (v := ?_) rfl (by kernel_rfl) (by kernel_rfl) (by kernel_rfl) (fun _ _ _ h => h) (Or.inl ⟨by rfl, ?_⟩) hS ?_
      rotate_left
      · intro wz hz; go_simp; try with_reducible rfl
      try simp only [Act.put, List.setIfInBounds_toArray, List.set_cons_zero, List.set_cons_succ, List.getElem_toArray, List.getElem_cons_succ, List.getElem_cons_zero]
      refine wpAnyH_take (i := 2) (v := ?_) rfl (by kernel_rfl) (by kernel_rfl) (by kernel_rfl) (fun _ _ _ h => h) (Or.inl ⟨by rfl, ?_⟩) hS ?_
      rotate_left
      · intro wz hz; go_simp; try with_reducible rfl
      try simp only [Act.put, List.setIfInBounds_toArray, List.set_cons_zero, List.set_cons_succ, List.getElem_toArray, List.getElem_cons_succ, List.getElem_cons_zero]
      refine wpAnyH_take (i := 3) (v := ?_) rfl (by kernel_rfl) (by kernel_rfl) (by kernel_rfl) (fun _ _ _ h => h) (Or.inl ⟨by rfl, ?_⟩) hS ?_
      rotate_left
      · intro wz hz; go_simp; try with_reducible rfl
      try simp only [Act.put, List.setIfInBounds_toArray, List.set_cons_zero, List.set_cons_succ, List.getElem_toArray, List.getElem_cons_succ, List.getElem_cons_zero]
      refine wpAnyH_take (i := 4) (v := ?_) rfl (by kernel_rfl) (by kernel_rfl) (by kernel_rfl) (fun _ _ _ h => h) (Or.inl ⟨by rfl, ?_⟩) hS ?_
      rotate_left
      · intro wz hz; go_simp; try with_reducible rfl
      try simp only [Act.put, List.setIfInBounds_toArray, List.set_cons_zero, List.set_cons_succ, List.getElem_toArray, List.getElem_cons_succ, List.getElem_cons_zero]
      refine wpAnyH_take (i := 5) (v := ?_) rfl (by kernel_rfl) (by kernel_rfl) (by kernel_rfl) (fun _ _ _ h => h) (Or.inl ⟨by rfl, ?_⟩) hS ?_
      rotate_left
      · intro wz hz; go_simp; try with_reducible rfl
      try simp only [Act.put, List.setIfInBounds_toArray, List.set_cons_zero, List.set_cons_succ, List.getElem_toArray, List.getElem_cons_succ, List.getElem_cons_zero]
      refine wpAnyH_take (i := 6) (v := undef) rfl (by kernel_rfl) (by kernel_rfl) (by kernel_rfl) (fun _ _ _ h => h) (Or.inr ⟨by rfl, rfl⟩) hS ?_
      try simp only [Act.put, List.setIfInBounds_toArray, List.set_cons_zero, List.set_cons_succ, List.getElem_toArray, List.getElem_cons_succ, List.getElem_cons_zero]
      refine wpAnyH_take (i := 7) (v := undef) rfl (by kernel_rfl) (by kernel_rfl) (by kernel_rfl) (fun _ _ _ h => h) (Or.inr ⟨by rfl, rfl⟩) hS ?_
      try simp only [Act.put, List.setIfInBounds_toArray, List.set_cons_zero, List.set_cons_succ, List.getElem_toArray, List.getElem_cons_succ, List.getElem_cons_zero]
      refine wpAnyH_take (i := 8) (v := undef) rfl (by kernel_rfl) (by kernel_rfl) (by kernel_rfl) (fun _ _ _ h => h) (Or.inr ⟨by rfl, rfl⟩) hS ?_
      try simp only [Act.put, List.setIfInBounds_toArray, List.set_cons_zero, List.set_cons_succ, List.getElem_toArray, List.getElem_cons_succ, List.getElem_cons_zero]
      refine wpAnyH_take (i := 9) (v := undef) rfl (by kernel_rfl) (by kernel_rfl) (by kernel_rfl) (fun _ _ _ h => h) (Or.inr ⟨by rfl, rfl⟩) hS ?_
      try simp only [Act.put, List.setIfInBounds_toArray, List.set_cons_zero, List.set_cons_succ, List.getElem_toArray, List.getElem_cons_succ, List.getElem_cons_zero]
      refine wpAnyH_take (i := 10) (v := ?_) rfl (by kernel_rfl) (by kernel_rfl) (by kernel_rfl) (fun _ _ _ h => h) (Or.inl ⟨by rfl, ?_⟩) hS ?_
      rotate_left
      · intro wz hz; go_simp; try with_reducible rfl
      try simp only [Act.put, List.setIfInBounds_toArray, List.set_cons_zero, List.set_cons_succ, List.getElem_toArray, List.getElem_cons_succ, List.getElem_cons_zero]
      refine wpAnyH_take (i := 11) (v := ?_) rfl (by kernel_rfl) (by kernel_rfl) (by kernel_rfl) (fun _ _ _ h => h) (Or.inl ⟨by rfl, ?_⟩) hS ?_
      rotate_left
      · intro wz hz; go_simp; try with_reducible rfl
      try simp only [Act.put, List.setIfInBounds_toArray, List.set_cons_zero, List.set_cons_succ, List.getElem_toArray, List.getElem_cons_succ, List.getElem_cons_zero]
      refine wpAnyH_take (i := 12) (v := undef) rfl (by kernel_rfl) (by kernel_rfl) (by kernel_rfl) (fun _ _ _ h => h) (Or.inr ⟨by rfl, rfl⟩) hS ?_
      try simp only [Act.put, List.setIfInBounds_toArray, List.set_cons_zero, List.set_cons_succ, List.getElem_toArray, List.getElem_cons_succ, List.getElem_cons_zero]
      refine wpAnyH_take (i := 13) (v := undef) rfl (by kernel_rfl) (by kernel_rfl) (by kernel_rfl) (fun _ _ _ h => h) (Or.inr ⟨by rfl, rfl⟩) hS ?_
      try simp only [Act.put, List.setIfInBounds_toArray, List.set_cons_zero, List.set_cons_succ, List.getElem_toArray, List.getElem_cons_succ, List.getElem_cons_zero]
      refine wpAnyH_take (i := 14) (v := undef) rfl (by kernel_rfl) (by kernel_rfl) (by kernel_rfl) (fun _ _ _ h => h) (Or.inr ⟨by rfl, rfl⟩) hS ?_
      try simp only [Act.put, List.setIfInBounds_toArray, List.set_cons_zero, List.set_cons_succ, List.getElem_toArray, List.getElem_cons_succ, List.getElem_cons_zero]
      refine wpAnyH_take (i := 15) (v := undef) rfl (by kernel_rfl) (by kernel_rfl) (by kernel_rfl) (fun _ _ _ h => h) (Or.inr ⟨by rfl, rfl⟩) hS ?_
      try simp only [Act.put, List.setIfInBounds_toArray, List.set_cons_zero, List.set_cons_succ, List.getElem_toArray, List.getElem_cons_succ, List.getElem_cons_zero]
      refine wpAnyH_take (i := 16) (v := undef) rfl (by kernel_rfl) (by kernel_rfl) (by kernel_rfl) (fun _ _ _ h => h) (Or.inr ⟨by rfl, rfl⟩) hS ?_
      try simp only [Act.put, List.setIfInBounds_toArray, List.set_cons_zero, List.set_cons_succ, List.getElem_toArray, List.getElem_cons_succ, List.getElem_cons_zero]
      refine wpAnyH_take (i := 17) (v := ?_) rfl (by kernel_rfl) (by kernel_rfl) (by kernel_rfl) (fun _ _ _ h => h) (Or.inl ⟨by rfl, ?_⟩) hS ?_
      rotate_left
      · intro wz hz; go_simp; try with_reducible rfl
      try simp only [Act.put, List.setIfInBounds_toArray, List.set_cons_zero, List.set_cons_succ, List.getElem_toArray, List.getElem_cons_succ, List.getElem_cons_zero]
      refine wpAnyH_done (by kernel_rfl) ?_ _
      have HZ0 := hid (st2T hS)
      have HZ := hid (St.mk (P := P8) HZ0.out.here HZ0.out.st)
      clear hS
      have ya0 := ka.out _ (kP8.out _ HZ.out.here)
      have yb0 := kb.out _ (kP8.out _ HZ.out.here)
      have HP := kP8
      go_wp2_with (first
        | (go_at_call 14; have := m4; refine (hMa.out _ (kB.out _ (kP8.out _ HZ.out.here))).mono ?_; rintro e v1 ⟨p1, q1, N1, rfl, hL1, hv1⟩; have HL1 := hid hL1; clear hL1; have Y1 := hid (HZ.out.stays hv1); have ya1 := ka.out _ (kP8.out _ Y1.out.here); have yb1 := kb.out _ (kP8.out _ Y1.out.here); clear hv1 m4)
        | (go_at_call 10; have := m5; refine (hI2.out _ _ _ _ (kB.out _ (kP8.out _ Y1.out.here)) HL1.out).mono ?_; rintro e v2 ⟨a9, c9, rfl, hv2⟩; have Y2 := hid (Y1.out.stays hv2); have yb2 := kb.out _ (kP8.out _ (Y2.out.stays (bl_alloc (Below.refl _ _) (.cells #[.int .i64 0, .int .i64 0, .slice a9 0 c9] 24))).here); clear hv2 m5)
        | (go_at_call 27; have := m6; refine (hFi.out _ (bl_alloc (kB.out _ (kP8.out _ Y2.out.here)) _)).mono ?_; rintro e v3 ⟨rfl, hv3⟩; have Y3 := hid ((Y2.out.stays (bl_alloc (Below.refl _ _) _)).stays hv3); clear hv3 m6)
        | (go_at_call 13; refine (hLive.out _).mono ?_; rintro e v4 ⟨rfl, hv4⟩; have HE := hid (bl_tr (kB.out _ (kP8.out _ Y3.out.here)) hv4); clear hv4))
      go_ret
      exact ⟨rfl, HE.out⟩
end Go.Proofs.Ythijckdhndbdoaa
