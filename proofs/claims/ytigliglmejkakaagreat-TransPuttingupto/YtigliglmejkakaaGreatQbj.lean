/- TransPutting: the walk. -/
import Derived.Test.YtigliglmejkakaaGreatQba
import Derived.Test.YtigliglmejkakaaGreatQbb
import Derived.Test.YtigliglmejkakaaGreatQbc
import Derived.Test.YtigliglmejkakaaGreatQbi
namespace Go.Proofs.YtigliglmejkakaaGreat
open Go.RowKit
set_option linter.unusedVariables false
set_option linter.unusedSimpArgs false

theorem Ls.arr14 {w : World} {p : Nat} {E : TypeId} {x : Int} (h : Arr w p E [.int .i64 x]) : Ls w Any (.slice (some ⟨p, 0, none⟩) 1 1) [x] := by
  refine .inl ⟨p, 0, 1, rfl, trivial, Nat.le_refl _, by simp [maxLen], fun j y hy => ?_⟩
  rw [h.cell, Nat.zero_add]
  match j, hy with
  | 0, hy => simpa using hy
theorem TAtL.arr14 {w : World} {p n : Nat} {E : TypeId} {vs : List Value} {x : Tp} (h : Arr w p E vs) (hx : TAt w Any n vs x) : TAtL w Any n (.slice (some ⟨p, 0, none⟩) 1 1) [x] := by
  refine .inl ⟨p, 0, 1, rfl, trivial, Nat.le_refl _, by simp [maxLen], fun i y hy => ?_⟩
  match i, hy with
  | 0, hy =>
    obtain rfl : x = y := by simpa using hy
    exact ⟨vs, fun j z hz => by rw [h.cell]; simpa using hz, hx⟩
/-- What is put in, is put in. -/
theorem Put_made {n : Int} {t u : Tp} (ht : t.okT = true) (l : List Int) : (Tp.made 0 t).Put n (Tp.made 0 u) l = Tp.made 0 (Tp.put 6 [n] [u] t) := by
  obtain ⟨h1, h2, -⟩ := (okT_iff t).1 ht
  unfold Tgt.Tt.Put
  split
  · exact put_made n u _ l t 0 h1 h2
  · rename_i h
    rw [put_absent n u t h1 h2 (by simpa using h)]

def zeroP : Tgt.Tt := .mk 0 0 [] []
theorem TtAns2.oneP {ok : Bool} {y : Tgt.Tt} {w : World} {e : Ending} {w' : World} (h : TtAns2 ok y w e w') : ∃ p' q' p q N, e = .returned (.tuple #[.agg #[.int .i64 (bif ok then y else zeroP).k, .int .i64 (bif ok then y else zeroP).n, .slice p' (bif ok then y else zeroP).ls.length q', .slice p (bif ok then y else zeroP).ks.length q], .int .i64 (bif ok then 0 else 1)]) ∧ Tgt.TAt w' Tgt.Any N [.int .i64 (bif ok then y else zeroP).k, .int .i64 (bif ok then y else zeroP).n, .slice p' (bif ok then y else zeroP).ls.length q', .slice p (bif ok then y else zeroP).ks.length q] (bif ok then y else zeroP) := by
  rcases h with ⟨rfl, a', c', a, c, N, h1, h2⟩ | ⟨rfl, h1⟩
  · exact ⟨a', c', a, c, N, h1, h2.any⟩
  · exact ⟨none, 0, none, 0, 1, h1, tat_leaf 0 0 (⟨by omega, by omega⟩ : Tgt.R64 0) (⟨by omega, by omega⟩ : Tgt.R64 0)⟩

set_option maxHeartbeats 4000000 in
set_option maxRecDepth 100000 in
theorem putting14_walk (w : World) (kt ku : Nat) (n : Int) (vs us : List Value) (t u : Tp) (hT : TAt w Any kt vs t) (hU : TAt w Any ku us u) (hc : t.cnt ≤ 1048576) (hd : u.cnt ≤ 1048576) (hn : R64 n) :
    Calls Tryz.prog 4 #[.agg vs.toArray, .agg us.toArray, .int .i64 n] w fun e w' => e = .returned (.bool true) ∧ Below w.heap.size w w' := by
  obtain ⟨a1, c1, rfl⟩ := hT.form
  obtain ⟨b1, d1, rfl⟩ := hU.form
  have HB2 : Hid (Below w.heap.size w ((w.alloc (.cells #[.int .i64 t.k, .int .i64 t.n, .slice a1 t.ks.length c1] 24)).alloc (.cells #[.int .i64 u.k, .int .i64 u.n, .slice b1 u.ks.length d1] 24))) := bl_alloc (bl_alloc (Below.refl _ _) _) _
  have HB4 : Hid (Below w.heap.size w ((((w.alloc (.cells #[.int .i64 t.k, .int .i64 t.n, .slice a1 t.ks.length c1] 24)).alloc (.cells #[.int .i64 u.k, .int .i64 u.n, .slice b1 u.ks.length d1] 24)).alloc (.cells #[.int .i64 n] 3)).alloc (.cells #[.int .i64 u.k, .int .i64 u.n, .slice b1 u.ks.length d1] 24))) := bl_alloc (bl_alloc HB2.out _) _
  have hb24 : Below ((w.alloc (.cells #[.int .i64 t.k, .int .i64 t.n, .slice a1 t.ks.length c1] 24)).alloc (.cells #[.int .i64 u.k, .int .i64 u.n, .slice b1 u.ks.length d1] 24)).heap.size ((w.alloc (.cells #[.int .i64 t.k, .int .i64 t.n, .slice a1 t.ks.length c1] 24)).alloc (.cells #[.int .i64 u.k, .int .i64 u.n, .slice b1 u.ks.length d1] 24)) ((((w.alloc (.cells #[.int .i64 t.k, .int .i64 t.n, .slice a1 t.ks.length c1] 24)).alloc (.cells #[.int .i64 u.k, .int .i64 u.n, .slice b1 u.ks.length d1] 24)).alloc (.cells #[.int .i64 n] 3)).alloc (.cells #[.int .i64 u.k, .int .i64 u.n, .slice b1 u.ks.length d1] 24)) := bl_alloc (bl_alloc (Below.refl _ _) _) _
  have X4 : Hid (Arr ((((w.alloc (.cells #[.int .i64 t.k, .int .i64 t.n, .slice a1 t.ks.length c1] 24)).alloc (.cells #[.int .i64 u.k, .int .i64 u.n, .slice b1 u.ks.length d1] 24)).alloc (.cells #[.int .i64 n] 3)).alloc (.cells #[.int .i64 u.k, .int .i64 u.n, .slice b1 u.ks.length d1] 24)) w.heap.size 24 [.int .i64 t.k, .int .i64 t.n, .slice a1 t.ks.length c1]) := Arr.stays (w := ((w.alloc (.cells #[.int .i64 t.k, .int .i64 t.n, .slice a1 t.ks.length c1] 24)).alloc (.cells #[.int .i64 u.k, .int .i64 u.n, .slice b1 u.ks.length d1] 24))) (Arr.stays ⟨heap_alloc_at _ _⟩ (bl_alloc (Below.refl _ _) _)) hb24
  have U4 : Hid (Arr ((((w.alloc (.cells #[.int .i64 t.k, .int .i64 t.n, .slice a1 t.ks.length c1] 24)).alloc (.cells #[.int .i64 u.k, .int .i64 u.n, .slice b1 u.ks.length d1] 24)).alloc (.cells #[.int .i64 n] 3)).alloc (.cells #[.int .i64 u.k, .int .i64 u.n, .slice b1 u.ks.length d1] 24)) (w.heap.size + 1) 24 [.int .i64 u.k, .int .i64 u.n, .slice b1 u.ks.length d1]) := Arr.stays (w := ((w.alloc (.cells #[.int .i64 t.k, .int .i64 t.n, .slice a1 t.ks.length c1] 24)).alloc (.cells #[.int .i64 u.k, .int .i64 u.n, .slice b1 u.ks.length d1] 24))) ⟨by have := heap_alloc_at (w.alloc (.cells #[.int .i64 t.k, .int .i64 t.n, .slice a1 t.ks.length c1] 24)) (.cells #[.int .i64 u.k, .int .i64 u.n, .slice b1 u.ks.length d1] 24); rw [size_alloc] at this; exact this⟩ hb24
  have I4 : Hid (Arr ((((w.alloc (.cells #[.int .i64 t.k, .int .i64 t.n, .slice a1 t.ks.length c1] 24)).alloc (.cells #[.int .i64 u.k, .int .i64 u.n, .slice b1 u.ks.length d1] 24)).alloc (.cells #[.int .i64 n] 3)).alloc (.cells #[.int .i64 u.k, .int .i64 u.n, .slice b1 u.ks.length d1] 24)) (w.heap.size + 2) 3 [.int .i64 n]) := Arr.stays (w := ((w.alloc (.cells #[.int .i64 t.k, .int .i64 t.n, .slice a1 t.ks.length c1] 24)).alloc (.cells #[.int .i64 u.k, .int .i64 u.n, .slice b1 u.ks.length d1] 24)).alloc (.cells #[.int .i64 n] 3)) ⟨by have := heap_alloc_at ((w.alloc (.cells #[.int .i64 t.k, .int .i64 t.n, .slice a1 t.ks.length c1] 24)).alloc (.cells #[.int .i64 u.k, .int .i64 u.n, .slice b1 u.ks.length d1] 24)) (.cells #[.int .i64 n] 3); rw [size_alloc, size_alloc] at this; exact this⟩ (bl_alloc (Below.refl _ _) _)
  have J4 : Hid (Arr ((((w.alloc (.cells #[.int .i64 t.k, .int .i64 t.n, .slice a1 t.ks.length c1] 24)).alloc (.cells #[.int .i64 u.k, .int .i64 u.n, .slice b1 u.ks.length d1] 24)).alloc (.cells #[.int .i64 n] 3)).alloc (.cells #[.int .i64 u.k, .int .i64 u.n, .slice b1 u.ks.length d1] 24)) (w.heap.size + 3) 24 [.int .i64 u.k, .int .i64 u.n, .slice b1 u.ks.length d1]) := ⟨by have := heap_alloc_at (((w.alloc (.cells #[.int .i64 t.k, .int .i64 t.n, .slice a1 t.ks.length c1] 24)).alloc (.cells #[.int .i64 u.k, .int .i64 u.n, .slice b1 u.ks.length d1] 24)).alloc (.cells #[.int .i64 n] 3)) (.cells #[.int .i64 u.k, .int .i64 u.n, .slice b1 u.ks.length d1] 24); rw [size_alloc, size_alloc, size_alloc] at this; exact this⟩
  have hRe := Replace_any ((((w.alloc (.cells #[.int .i64 t.k, .int .i64 t.n, .slice a1 t.ks.length c1] 24)).alloc (.cells #[.int .i64 u.k, .int .i64 u.n, .slice b1 u.ks.length d1] 24)).alloc (.cells #[.int .i64 n] 3)).alloc (.cells #[.int .i64 u.k, .int .i64 u.n, .slice b1 u.ks.length d1] 24)) _ _ _ t 6 (.slice (some ⟨w.heap.size + 2, 0, none⟩) 1 1) (.slice (some ⟨w.heap.size + 3, 0, none⟩) 1 1) [n] [u] (hT.below HB4.out) (Ls.arr14 I4.out) (TAtL.arr14 J4.out (hU.below HB4.out))
  obtain ⟨⟨x, xe⟩, hx⟩ : ∃ q, Tp.repl 6 [n] [u] t = q := ⟨_, rfl⟩
  rw [hx] at hRe
  have HRe : Hid (Calls Tryz.prog 11 #[.agg #[.int .i64 t.k, .int .i64 t.n, .slice a1 t.ks.length c1], .int .i64 6, .slice (some ⟨w.heap.size + 2, 0, none⟩) 1 1, .slice (some ⟨w.heap.size + 3, 0, none⟩) 1 1] ((((w.alloc (.cells #[.int .i64 t.k, .int .i64 t.n, .slice a1 t.ks.length c1] 24)).alloc (.cells #[.int .i64 u.k, .int .i64 u.n, .slice b1 u.ks.length d1] 24)).alloc (.cells #[.int .i64 n] 3)).alloc (.cells #[.int .i64 u.k, .int .i64 u.n, .slice b1 u.ks.length d1] 24)) fun e w' => (∃ ax cx m, e = .returned (.tuple #[.agg #[.int .i64 x.k, .int .i64 x.n, .slice ax x.ks.length cx], .int .i64 xe]) ∧ TAt w' Any m [.int .i64 x.k, .int .i64 x.n, .slice ax x.ks.length cx] x) ∧ Below ((((w.alloc (.cells #[.int .i64 t.k, .int .i64 t.n, .slice a1 t.ks.length c1] 24)).alloc (.cells #[.int .i64 u.k, .int .i64 u.n, .slice b1 u.ks.length d1] 24)).alloc (.cells #[.int .i64 n] 3)).alloc (.cells #[.int .i64 u.k, .int .i64 u.n, .slice b1 u.ks.length d1] 24)).heap.size ((((w.alloc (.cells #[.int .i64 t.k, .int .i64 t.n, .slice a1 t.ks.length c1] 24)).alloc (.cells #[.int .i64 u.k, .int .i64 u.n, .slice b1 u.ks.length d1] 24)).alloc (.cells #[.int .i64 n] 3)).alloc (.cells #[.int .i64 u.k, .int .i64 u.n, .slice b1 u.ks.length d1] 24)) w') := hRe.mono fun e w' ⟨vs', n', h1, h2, h3⟩ => by
    obtain ⟨ax, cx, rfl⟩ := h2.form
    exact ⟨⟨ax, cx, n', h1, h2.any⟩, h3⟩
  have HT1 : Hid (∀ wz, Below w.heap.size w wz → Calls Tryz.prog 6 #[.agg #[.int .i64 t.k, .int .i64 t.n, .slice a1 t.ks.length c1]] wz fun e w' => (∃ p' q' p q N, e = .returned (.tuple #[.agg #[.int .i64 (bif t.okT then Tp.made 0 t else zeroP).k, .int .i64 (bif t.okT then Tp.made 0 t else zeroP).n, .slice p' (bif t.okT then Tp.made 0 t else zeroP).ls.length q', .slice p (bif t.okT then Tp.made 0 t else zeroP).ks.length q], .int .i64 (bif t.okT then 0 else 1)]) ∧ Tgt.TAt w' Tgt.Any N [.int .i64 (bif t.okT then Tp.made 0 t else zeroP).k, .int .i64 (bif t.okT then Tp.made 0 t else zeroP).n, .slice p' (bif t.okT then Tp.made 0 t else zeroP).ls.length q', .slice p (bif t.okT then Tp.made 0 t else zeroP).ks.length q] (bif t.okT then Tp.made 0 t else zeroP)) ∧ Below wz.heap.size wz w') := fun wz hz => (TType_any wz _ _ t (hT.below hz) hc).mono fun e w' ⟨h1, h2⟩ => ⟨h1.two.oneP, h2⟩
  have HT2 : Hid (∀ wz, Below w.heap.size w wz → Calls Tryz.prog 6 #[.agg #[.int .i64 u.k, .int .i64 u.n, .slice b1 u.ks.length d1]] wz fun e w' => (∃ p' q' p q N, e = .returned (.tuple #[.agg #[.int .i64 (bif u.okT then Tp.made 0 u else zeroP).k, .int .i64 (bif u.okT then Tp.made 0 u else zeroP).n, .slice p' (bif u.okT then Tp.made 0 u else zeroP).ls.length q', .slice p (bif u.okT then Tp.made 0 u else zeroP).ks.length q], .int .i64 (bif u.okT then 0 else 1)]) ∧ Tgt.TAt w' Tgt.Any N [.int .i64 (bif u.okT then Tp.made 0 u else zeroP).k, .int .i64 (bif u.okT then Tp.made 0 u else zeroP).n, .slice p' (bif u.okT then Tp.made 0 u else zeroP).ls.length q', .slice p (bif u.okT then Tp.made 0 u else zeroP).ks.length q] (bif u.okT then Tp.made 0 u else zeroP)) ∧ Below wz.heap.size wz w') := fun wz hz => (TType_any wz _ _ u (hU.below hz) hd).mono fun e w' ⟨h1, h2⟩ => ⟨h1.two.oneP, h2⟩
  have HAl : Hid (∀ wz, Calls Tryz.prog 7 #[] wz fun e w' => e = .returned (.bool true) ∧ Below wz.heap.size wz w') := fun wz => alive14 wz
  have HX := hid hx
  have m1 : Hid True := trivial
  have m2 : Hid True := trivial
  have hxe : xe = 0 ∨ xe = 1 ∨ xe = 3 := by
    have := congrArg Prod.snd hx
    unfold Tp.repl at this
    split at this
    · exact .inr (.inl this.symm)
    · split at this
      · exact .inr (.inr this.symm)
      · exact .inl this.symm
  by_cases h0 : xe ≠ 0
  · have hx3 : (xe != 0) = true := by simpa using h0
    generalize (bif t.okT then Tp.made 0 t else zeroP) = y1 at HT1
    generalize (bif u.okT then Tp.made 0 u else zeroP) = y2 at HT2
    generalize (bif t.okT then (0 : Int) else 1) = e1 at HT1
    generalize (bif u.okT then (0 : Int) else 1) = e2 at HT2
    clear h0
    skip
    clear hx hxe hT hU hc hd HX hRe
    go_enter Tryz.func4, Tryz.ntmps4
    go_wp2_with (first | (go_at_call 11; refine HRe.out.mono ?_; rintro e w5 ⟨⟨ax, cx, mx, rfl, hX5⟩, b5⟩; have hb5 := bl_alloc b5 (.cells #[.int .i64 x.k, .int .i64 x.n, .slice ax x.ks.length cx] 24); have HB5 := hid (bl_tr HB4.out hb5); have X5 := hid (X4.out.stays hb5); have U5 := hid (U4.out.stays hb5); have HX5 := hid (hX5.below (bl_alloc (Below.refl _ _) (.cells #[.int .i64 x.k, .int .i64 x.n, .slice ax x.ks.length cx] 24))); have Z5 : Hid (Arr (w5.alloc (.cells #[.int .i64 x.k, .int .i64 x.n, .slice ax x.ks.length cx] 24)) w5.heap.size 24 [.int .i64 x.k, .int .i64 x.n, .slice ax x.ks.length cx]) := ⟨heap_alloc_at _ _⟩; have x5 := X5.out.cell; have u5 := U5.out.cell; clear b5 hb5 hX5 HRe) | (go_at_call 6; have := m1; refine (HT1.out _ HB5.out).mono ?_; rintro e w6 ⟨⟨p6', q6', p6, q6, N6, rfl, hT6⟩, b6⟩; have hb6 := bl_alloc b6 (.cells #[.int .i64 y1.k, .int .i64 y1.n, .slice p6' y1.ls.length q6', .slice p6 y1.ks.length q6] 28); have HB6 := hid (bl_tr HB5.out hb6); have X6 := hid (X5.out.stays hb6); have U6 := hid (U5.out.stays hb6); have HX6 := hid (HX5.out.below hb6); have Z6 := hid (Z5.out.stays hb6); have T6 := hid (hT6.below (bl_alloc (Below.refl _ _) (.cells #[.int .i64 y1.k, .int .i64 y1.n, .slice p6' y1.ls.length q6', .slice p6 y1.ks.length q6] 28))); have A6 : Hid (Arr (w6.alloc (.cells #[.int .i64 y1.k, .int .i64 y1.n, .slice p6' y1.ls.length q6', .slice p6 y1.ks.length q6] 28)) w6.heap.size 28 [.int .i64 y1.k, .int .i64 y1.n, .slice p6' y1.ls.length q6', .slice p6 y1.ks.length q6]) := ⟨heap_alloc_at _ _⟩; have x6 := X6.out.cell; have u6 := U6.out.cell; have zz6 := Z6.out.cell; clear m1 b6 hb6 hT6 HT1 x5 u5) | (go_at_call 6; refine (HT2.out _ HB6.out).mono ?_; rintro e w7 ⟨⟨p7', q7', p7, q7, N7, rfl, hT7⟩, b7⟩; have hb7 := bl_alloc b7 (.cells #[.int .i64 y2.k, .int .i64 y2.n, .slice p7' y2.ls.length q7', .slice p7 y2.ks.length q7] 28); have HB7 := hid (bl_tr HB6.out hb7); have X7 := hid (X6.out.stays hb7); have U7 := hid (U6.out.stays hb7); have HX7 := hid (HX6.out.below hb7); have Z7 := hid (Z6.out.stays hb7); have T6 := hid (T6.out.below hb7); have A6 := hid (A6.out.stays hb7); have T7 := hid (hT7.below (bl_alloc (Below.refl _ _) (.cells #[.int .i64 y2.k, .int .i64 y2.n, .slice p7' y2.ls.length q7', .slice p7 y2.ks.length q7] 28))); have A7 : Hid (Arr (w7.alloc (.cells #[.int .i64 y2.k, .int .i64 y2.n, .slice p7' y2.ls.length q7', .slice p7 y2.ks.length q7] 28)) w7.heap.size 28 [.int .i64 y2.k, .int .i64 y2.n, .slice p7' y2.ls.length q7', .slice p7 y2.ks.length q7]) := ⟨heap_alloc_at _ _⟩; have x7 := X7.out.cell; have u7 := U7.out.cell; have zz7 := Z7.out.cell; clear b7 hb7 hT7 HT2 x6 u6) | (go_at_call 7; refine (HAl.out _).mono ?_; rintro e w9 ⟨rfl, b9⟩; have HB9 := hid (bl_tr HB7.out b9); clear b9))
    go_ret
    exact ⟨rfl, HB9.out⟩
  have h0 : xe = 0 := by omega
  subst h0
  cases ht : t.okT with
  | false =>
    rw [ht] at HT1
    simp only [cond_false] at HT1
    generalize (bif u.okT then Tp.made 0 u else zeroP) = y2 at HT2
    generalize (bif u.okT then (0 : Int) else 1) = e2 at HT2
    generalize zeroP = y1 at HT1
    clear ht
    skip
    clear hx hxe hT hU hc hd HX hRe
    go_enter Tryz.func4, Tryz.ntmps4
    go_wp2_with (first | (go_at_call 11; refine HRe.out.mono ?_; rintro e w5 ⟨⟨ax, cx, mx, rfl, hX5⟩, b5⟩; have hb5 := bl_alloc b5 (.cells #[.int .i64 x.k, .int .i64 x.n, .slice ax x.ks.length cx] 24); have HB5 := hid (bl_tr HB4.out hb5); have X5 := hid (X4.out.stays hb5); have U5 := hid (U4.out.stays hb5); have HX5 := hid (hX5.below (bl_alloc (Below.refl _ _) (.cells #[.int .i64 x.k, .int .i64 x.n, .slice ax x.ks.length cx] 24))); have Z5 : Hid (Arr (w5.alloc (.cells #[.int .i64 x.k, .int .i64 x.n, .slice ax x.ks.length cx] 24)) w5.heap.size 24 [.int .i64 x.k, .int .i64 x.n, .slice ax x.ks.length cx]) := ⟨heap_alloc_at _ _⟩; have x5 := X5.out.cell; have u5 := U5.out.cell; clear b5 hb5 hX5 HRe) | (go_at_call 6; have := m1; refine (HT1.out _ HB5.out).mono ?_; rintro e w6 ⟨⟨p6', q6', p6, q6, N6, rfl, hT6⟩, b6⟩; have hb6 := bl_alloc b6 (.cells #[.int .i64 y1.k, .int .i64 y1.n, .slice p6' y1.ls.length q6', .slice p6 y1.ks.length q6] 28); have HB6 := hid (bl_tr HB5.out hb6); have X6 := hid (X5.out.stays hb6); have U6 := hid (U5.out.stays hb6); have HX6 := hid (HX5.out.below hb6); have Z6 := hid (Z5.out.stays hb6); have T6 := hid (hT6.below (bl_alloc (Below.refl _ _) (.cells #[.int .i64 y1.k, .int .i64 y1.n, .slice p6' y1.ls.length q6', .slice p6 y1.ks.length q6] 28))); have A6 : Hid (Arr (w6.alloc (.cells #[.int .i64 y1.k, .int .i64 y1.n, .slice p6' y1.ls.length q6', .slice p6 y1.ks.length q6] 28)) w6.heap.size 28 [.int .i64 y1.k, .int .i64 y1.n, .slice p6' y1.ls.length q6', .slice p6 y1.ks.length q6]) := ⟨heap_alloc_at _ _⟩; have x6 := X6.out.cell; have u6 := U6.out.cell; have zz6 := Z6.out.cell; clear m1 b6 hb6 hT6 HT1 x5 u5) | (go_at_call 6; refine (HT2.out _ HB6.out).mono ?_; rintro e w7 ⟨⟨p7', q7', p7, q7, N7, rfl, hT7⟩, b7⟩; have hb7 := bl_alloc b7 (.cells #[.int .i64 y2.k, .int .i64 y2.n, .slice p7' y2.ls.length q7', .slice p7 y2.ks.length q7] 28); have HB7 := hid (bl_tr HB6.out hb7); have X7 := hid (X6.out.stays hb7); have U7 := hid (U6.out.stays hb7); have HX7 := hid (HX6.out.below hb7); have Z7 := hid (Z6.out.stays hb7); have T6 := hid (T6.out.below hb7); have A6 := hid (A6.out.stays hb7); have T7 := hid (hT7.below (bl_alloc (Below.refl _ _) (.cells #[.int .i64 y2.k, .int .i64 y2.n, .slice p7' y2.ls.length q7', .slice p7 y2.ks.length q7] 28))); have A7 : Hid (Arr (w7.alloc (.cells #[.int .i64 y2.k, .int .i64 y2.n, .slice p7' y2.ls.length q7', .slice p7 y2.ks.length q7] 28)) w7.heap.size 28 [.int .i64 y2.k, .int .i64 y2.n, .slice p7' y2.ls.length q7', .slice p7 y2.ks.length q7]) := ⟨heap_alloc_at _ _⟩; have x7 := X7.out.cell; have u7 := U7.out.cell; have zz7 := Z7.out.cell; clear b7 hb7 hT7 HT2 x6 u6) | (go_at_call 7; refine (HAl.out _).mono ?_; rintro e w9 ⟨rfl, b9⟩; have HB9 := hid (bl_tr HB7.out b9); clear b9))
    go_ret
    exact ⟨rfl, HB9.out⟩
  | true =>
  cases hu : u.okT with
  | false =>
    rw [ht] at HT1
    rw [hu] at HT2
    simp only [cond_false, cond_true] at HT1 HT2
    generalize zeroP = y2 at HT2
    generalize Tp.made 0 t = y1 at HT1
    clear ht hu
    skip
    clear hx hxe hT hU hc hd HX hRe
    go_enter Tryz.func4, Tryz.ntmps4
    go_wp2_with (first | (go_at_call 11; refine HRe.out.mono ?_; rintro e w5 ⟨⟨ax, cx, mx, rfl, hX5⟩, b5⟩; have hb5 := bl_alloc b5 (.cells #[.int .i64 x.k, .int .i64 x.n, .slice ax x.ks.length cx] 24); have HB5 := hid (bl_tr HB4.out hb5); have X5 := hid (X4.out.stays hb5); have U5 := hid (U4.out.stays hb5); have HX5 := hid (hX5.below (bl_alloc (Below.refl _ _) (.cells #[.int .i64 x.k, .int .i64 x.n, .slice ax x.ks.length cx] 24))); have Z5 : Hid (Arr (w5.alloc (.cells #[.int .i64 x.k, .int .i64 x.n, .slice ax x.ks.length cx] 24)) w5.heap.size 24 [.int .i64 x.k, .int .i64 x.n, .slice ax x.ks.length cx]) := ⟨heap_alloc_at _ _⟩; have x5 := X5.out.cell; have u5 := U5.out.cell; clear b5 hb5 hX5 HRe) | (go_at_call 6; have := m1; refine (HT1.out _ HB5.out).mono ?_; rintro e w6 ⟨⟨p6', q6', p6, q6, N6, rfl, hT6⟩, b6⟩; have hb6 := bl_alloc b6 (.cells #[.int .i64 y1.k, .int .i64 y1.n, .slice p6' y1.ls.length q6', .slice p6 y1.ks.length q6] 28); have HB6 := hid (bl_tr HB5.out hb6); have X6 := hid (X5.out.stays hb6); have U6 := hid (U5.out.stays hb6); have HX6 := hid (HX5.out.below hb6); have Z6 := hid (Z5.out.stays hb6); have T6 := hid (hT6.below (bl_alloc (Below.refl _ _) (.cells #[.int .i64 y1.k, .int .i64 y1.n, .slice p6' y1.ls.length q6', .slice p6 y1.ks.length q6] 28))); have A6 : Hid (Arr (w6.alloc (.cells #[.int .i64 y1.k, .int .i64 y1.n, .slice p6' y1.ls.length q6', .slice p6 y1.ks.length q6] 28)) w6.heap.size 28 [.int .i64 y1.k, .int .i64 y1.n, .slice p6' y1.ls.length q6', .slice p6 y1.ks.length q6]) := ⟨heap_alloc_at _ _⟩; have x6 := X6.out.cell; have u6 := U6.out.cell; have zz6 := Z6.out.cell; clear m1 b6 hb6 hT6 HT1 x5 u5) | (go_at_call 6; refine (HT2.out _ HB6.out).mono ?_; rintro e w7 ⟨⟨p7', q7', p7, q7, N7, rfl, hT7⟩, b7⟩; have hb7 := bl_alloc b7 (.cells #[.int .i64 y2.k, .int .i64 y2.n, .slice p7' y2.ls.length q7', .slice p7 y2.ks.length q7] 28); have HB7 := hid (bl_tr HB6.out hb7); have X7 := hid (X6.out.stays hb7); have U7 := hid (U6.out.stays hb7); have HX7 := hid (HX6.out.below hb7); have Z7 := hid (Z6.out.stays hb7); have T6 := hid (T6.out.below hb7); have A6 := hid (A6.out.stays hb7); have T7 := hid (hT7.below (bl_alloc (Below.refl _ _) (.cells #[.int .i64 y2.k, .int .i64 y2.n, .slice p7' y2.ls.length q7', .slice p7 y2.ks.length q7] 28))); have A7 : Hid (Arr (w7.alloc (.cells #[.int .i64 y2.k, .int .i64 y2.n, .slice p7' y2.ls.length q7', .slice p7 y2.ks.length q7] 28)) w7.heap.size 28 [.int .i64 y2.k, .int .i64 y2.n, .slice p7' y2.ls.length q7', .slice p7 y2.ks.length q7]) := ⟨heap_alloc_at _ _⟩; have x7 := X7.out.cell; have u7 := U7.out.cell; have zz7 := Z7.out.cell; clear b7 hb7 hT7 HT2 x6 u6) | (go_at_call 7; refine (HAl.out _).mono ?_; rintro e w9 ⟨rfl, b9⟩; have HB9 := hid (bl_tr HB7.out b9); clear b9))
    go_ret
    exact ⟨rfl, HB9.out⟩
  | true =>
    rw [ht] at HT1
    rw [hu] at HT2
    simp only [cond_true] at HT1 HT2
    have hxp : x = Tp.put 6 [n] [u] t ∧ x.cnt ≤ 1000 := by
      unfold Tp.repl at hx
      simp only [List.length_cons, List.length_nil, ne_eq, not_true_eq_false, if_false] at hx
      split at hx
      · have := congrArg Prod.snd hx
        cases this
      · rename_i h9
        have h8 := congrArg Prod.fst hx
        have h8 : Tp.put 6 [n] [u] t = x := h8
        exact ⟨h8.symm, by rw [← h8]; omega⟩
    have hxo : x.okT = true := by rw [hxp.1]; exact okT_put ht hu
    have HPU : Hid (∀ l, (Tp.made 0 t).Put n (Tp.made 0 u) l = Tp.made 0 x) := fun l => by rw [hxp.1]; exact Put_made ht l
    have hc1 : (Tp.made 0 t).cnt ≤ 1048576 := Nat.le_trans (made_cnt 0 t) hc
    have hc2 : (Tp.made 0 u).cnt ≤ 1048576 := Nat.le_trans (made_cnt 0 u) hd
    have hc3 : (Tp.made 0 x).cnt ≤ 2097152 := Nat.le_trans (made_cnt 0 x) (by have := hxp.2; omega)
    have HT3 : Hid (∀ (wz : World) (ax : Option Addr) (cx mx : Nat), TAt wz Any mx [.int .i64 x.k, .int .i64 x.n, .slice ax x.ks.length cx] x → Calls Tryz.prog 6 #[.agg #[.int .i64 x.k, .int .i64 x.n, .slice ax x.ks.length cx]] wz fun e w' => (∃ p' q' p q N, e = .returned (.tuple #[.agg #[.int .i64 (Tp.made 0 x).k, .int .i64 (Tp.made 0 x).n, .slice p' (Tp.made 0 x).ls.length q', .slice p (Tp.made 0 x).ks.length q], .int .i64 0]) ∧ Tgt.TAt w' Tgt.Any N [.int .i64 (Tp.made 0 x).k, .int .i64 (Tp.made 0 x).n, .slice p' (Tp.made 0 x).ls.length q', .slice p (Tp.made 0 x).ks.length q] (Tp.made 0 x)) ∧ Below wz.heap.size wz w') := fun wz ax cx mx hX => (TType_any wz mx _ x hX (by have := hxp.2; omega)).mono fun e w' ⟨h1, h2⟩ => ⟨by have h3 := h1.two.oneP; rw [hxo] at h3; exact h3, h2⟩
    generalize Tp.made 0 t = y1 at HT1 HPU hc1
    generalize Tp.made 0 u = y2 at HT2 HPU hc2
    generalize Tp.made 0 x = y3 at HT3 HPU hc3
    have HPt : Hid (∀ (wz : World) (p6' p6 p7' p7 : Option Addr) (q6' q6 q7' q7 N6 N7 : Nat), Tgt.TAt wz Tgt.Any N6 [.int .i64 y1.k, .int .i64 y1.n, .slice p6' y1.ls.length q6', .slice p6 y1.ks.length q6] y1 → Tgt.TAt wz Tgt.Any N7 [.int .i64 y2.k, .int .i64 y2.n, .slice p7' y2.ls.length q7', .slice p7 y2.ks.length q7] y2 → Calls Tryz.prog 12 #[.agg #[.int .i64 y1.k, .int .i64 y1.n, .slice p6' y1.ls.length q6', .slice p6 y1.ks.length q6], .int .i64 n, .agg #[.int .i64 y2.k, .int .i64 y2.n, .slice p7' y2.ls.length q7', .slice p7 y2.ks.length q7]] wz fun e w' => (∃ g' e' g h' N, e = .returned (.agg #[.int .i64 y3.k, .int .i64 y3.n, .slice g' y3.ls.length e', .slice g y3.ks.length h']) ∧ Tgt.TAt w' Tgt.Any N [.int .i64 y3.k, .int .i64 y3.n, .slice g' y3.ls.length e', .slice g y3.ks.length h'] y3) ∧ Below wz.heap.size wz w') := fun wz p6' p6 p7' p7 q6' q6 q7' q7 N6 N7 h6 h7 => (Tgt.Put_any wz N6 N7 _ _ y1 y2 n hn h6 h7 hc1 hc2).mono fun e w' ⟨xs, k', l, g1, g2, g3, _⟩ => by
      rw [HPU.out] at g2
      obtain ⟨g', e', g, h', rfl⟩ := g2.form
      exact ⟨⟨g', e', g, h', k', g1, g2⟩, g3⟩
    have HSa : Hid (∀ (wz : World) (p6' p6 p7' p7 : Option Addr) (q6' q6 q7' q7 N6 N7 : Nat), Tgt.TAt wz Tgt.Any N6 [.int .i64 y3.k, .int .i64 y3.n, .slice p6' y3.ls.length q6', .slice p6 y3.ks.length q6] y3 → Tgt.TAt wz Tgt.Any N7 [.int .i64 y3.k, .int .i64 y3.n, .slice p7' y3.ls.length q7', .slice p7 y3.ks.length q7] y3 → Calls Tryz.prog 8 #[.agg #[.int .i64 y3.k, .int .i64 y3.n, .slice p6' y3.ls.length q6', .slice p6 y3.ks.length q6], .agg #[.int .i64 y3.k, .int .i64 y3.n, .slice p7' y3.ls.length q7', .slice p7 y3.ks.length q7]] wz fun e w' => e = .returned (.bool true) ∧ Below wz.heap.size wz w') := fun wz p6' p6 p7' p7 q6' q6 q7' q7 N6 N7 h6 h7 => (Tgt.SameType_any wz N6 N7 _ _ y3 y3 h6 h7 hc3).mono fun e w' ⟨g1, g2⟩ => ⟨by rw [g1, tsame_refl], g2⟩
    clear hx hxe hT hU hc hd HX hRe ht hu hxp hxo hc1 hc2 hc3 HPU
    have m3 : Hid True := trivial
    go_enter Tryz.func4, Tryz.ntmps4
    go_wp2_with (first | (go_at_call 11; refine HRe.out.mono ?_; rintro e w5 ⟨⟨ax, cx, mx, rfl, hX5⟩, b5⟩; have hb5 := bl_alloc b5 (.cells #[.int .i64 x.k, .int .i64 x.n, .slice ax x.ks.length cx] 24); have HB5 := hid (bl_tr HB4.out hb5); have X5 := hid (X4.out.stays hb5); have U5 := hid (U4.out.stays hb5); have HX5 := hid (hX5.below (bl_alloc (Below.refl _ _) (.cells #[.int .i64 x.k, .int .i64 x.n, .slice ax x.ks.length cx] 24))); have Z5 : Hid (Arr (w5.alloc (.cells #[.int .i64 x.k, .int .i64 x.n, .slice ax x.ks.length cx] 24)) w5.heap.size 24 [.int .i64 x.k, .int .i64 x.n, .slice ax x.ks.length cx]) := ⟨heap_alloc_at _ _⟩; have x5 := X5.out.cell; have u5 := U5.out.cell; clear b5 hb5 hX5 HRe) | (go_at_call 6; have := m1; refine (HT1.out _ HB5.out).mono ?_; rintro e w6 ⟨⟨p6', q6', p6, q6, N6, rfl, hT6⟩, b6⟩; have hb6 := bl_alloc b6 (.cells #[.int .i64 y1.k, .int .i64 y1.n, .slice p6' y1.ls.length q6', .slice p6 y1.ks.length q6] 28); have HB6 := hid (bl_tr HB5.out hb6); have X6 := hid (X5.out.stays hb6); have U6 := hid (U5.out.stays hb6); have HX6 := hid (HX5.out.below hb6); have Z6 := hid (Z5.out.stays hb6); have T6 := hid (hT6.below (bl_alloc (Below.refl _ _) (.cells #[.int .i64 y1.k, .int .i64 y1.n, .slice p6' y1.ls.length q6', .slice p6 y1.ks.length q6] 28))); have A6 : Hid (Arr (w6.alloc (.cells #[.int .i64 y1.k, .int .i64 y1.n, .slice p6' y1.ls.length q6', .slice p6 y1.ks.length q6] 28)) w6.heap.size 28 [.int .i64 y1.k, .int .i64 y1.n, .slice p6' y1.ls.length q6', .slice p6 y1.ks.length q6]) := ⟨heap_alloc_at _ _⟩; have x6 := X6.out.cell; have u6 := U6.out.cell; have zz6 := Z6.out.cell; clear m1 b6 hb6 hT6 HT1 x5 u5) | (go_at_call 6; have := m2; refine (HT2.out _ HB6.out).mono ?_; rintro e w7 ⟨⟨p7', q7', p7, q7, N7, rfl, hT7⟩, b7⟩; have hb7 := bl_alloc b7 (.cells #[.int .i64 y2.k, .int .i64 y2.n, .slice p7' y2.ls.length q7', .slice p7 y2.ks.length q7] 28); have HB7 := hid (bl_tr HB6.out hb7); have X7 := hid (X6.out.stays hb7); have U7 := hid (U6.out.stays hb7); have HX7 := hid (HX6.out.below hb7); have Z7 := hid (Z6.out.stays hb7); have T6 := hid (T6.out.below hb7); have A6 := hid (A6.out.stays hb7); have T7 := hid (hT7.below (bl_alloc (Below.refl _ _) (.cells #[.int .i64 y2.k, .int .i64 y2.n, .slice p7' y2.ls.length q7', .slice p7 y2.ks.length q7] 28))); have A7 : Hid (Arr (w7.alloc (.cells #[.int .i64 y2.k, .int .i64 y2.n, .slice p7' y2.ls.length q7', .slice p7 y2.ks.length q7] 28)) w7.heap.size 28 [.int .i64 y2.k, .int .i64 y2.n, .slice p7' y2.ls.length q7', .slice p7 y2.ks.length q7]) := ⟨heap_alloc_at _ _⟩; have x7 := X7.out.cell; have u7 := U7.out.cell; have zz7 := Z7.out.cell; clear m2 b7 hb7 hT7 HT2 x6 u6) | (go_at_call 6; refine (HT3.out _ _ _ _ HX7.out).mono ?_; rintro e w8 ⟨⟨p8', q8', p8, q8, N8, rfl, hT8⟩, b8⟩; have hb8 := bl_alloc b8 (.cells #[.int .i64 y3.k, .int .i64 y3.n, .slice p8' y3.ls.length q8', .slice p8 y3.ks.length q8] 28); have HB8 := hid (bl_tr HB7.out hb8); have T6 := hid (T6.out.below hb8); have A6 := hid (A6.out.stays hb8); have T7 := hid (T7.out.below hb8); have A7 := hid (A7.out.stays hb8); have T8 := hid (hT8.below (bl_alloc (Below.refl _ _) (.cells #[.int .i64 y3.k, .int .i64 y3.n, .slice p8' y3.ls.length q8', .slice p8 y3.ks.length q8] 28))); have A8 : Hid (Arr (w8.alloc (.cells #[.int .i64 y3.k, .int .i64 y3.n, .slice p8' y3.ls.length q8', .slice p8 y3.ks.length q8] 28)) w8.heap.size 28 [.int .i64 y3.k, .int .i64 y3.n, .slice p8' y3.ls.length q8', .slice p8 y3.ks.length q8]) := ⟨heap_alloc_at _ _⟩; clear b8 hb8 hT8 HT3))
    have HDB : Hid (Below (w8.alloc (.cells #[.int .i64 y3.k, .int .i64 y3.n, .slice p8' y3.ls.length q8', .slice p8 y3.ks.length q8] 28)).heap.size (w8.alloc (.cells #[.int .i64 y3.k, .int .i64 y3.n, .slice p8' y3.ls.length q8', .slice p8 y3.ks.length q8] 28)) (w8.alloc (.cells #[.int .i64 y3.k, .int .i64 y3.n, .slice p8' y3.ls.length q8', .slice p8 y3.ks.length q8] 28)).drew) := (Below.refl _ _).drew
    have hs0 : Hid (Arr (w8.alloc (.cells #[.int .i64 y3.k, .int .i64 y3.n, .slice p8' y3.ls.length q8', .slice p8 y3.ks.length q8] 28)).drew w6.heap.size 28 [.int .i64 y1.k, .int .i64 y1.n, .slice p6' y1.ls.length q6', .slice p6 y1.ks.length q6] ∧ Arr (w8.alloc (.cells #[.int .i64 y3.k, .int .i64 y3.n, .slice p8' y3.ls.length q8', .slice p8 y3.ks.length q8] 28)).drew w7.heap.size 28 [.int .i64 y2.k, .int .i64 y2.n, .slice p7' y2.ls.length q7', .slice p7 y2.ks.length q7] ∧ Arr (w8.alloc (.cells #[.int .i64 y3.k, .int .i64 y3.n, .slice p8' y3.ls.length q8', .slice p8 y3.ks.length q8] 28)).drew w8.heap.size 28 [.int .i64 y3.k, .int .i64 y3.n, .slice p8' y3.ls.length q8', .slice p8 y3.ks.length q8] ∧ Below w.heap.size w (w8.alloc (.cells #[.int .i64 y3.k, .int .i64 y3.n, .slice p8' y3.ls.length q8', .slice p8 y3.ks.length q8] 28)).drew) := ⟨A6.out.stays HDB.out, A7.out.stays HDB.out, A8.out.stays HDB.out, bl_tr HB8.out HDB.out⟩
    have T6 := hid (T6.out.below HDB.out)
    have T7 := hid (T7.out.below HDB.out)
    have T8 := hid (T8.out.below HDB.out)
    clear HDB A6 A7 A8 x7 u7
    refine wp_region_held_drew (S := fun wz => Arr wz w6.heap.size 28 [.int .i64 y1.k, .int .i64 y1.n, .slice p6' y1.ls.length q6', .slice p6 y1.ks.length q6] ∧ Arr wz w7.heap.size 28 [.int .i64 y2.k, .int .i64 y2.n, .slice p7' y2.ls.length q7', .slice p7 y2.ks.length q7] ∧ Arr wz w8.heap.size 28 [.int .i64 y3.k, .int .i64 y3.n, .slice p8' y3.ls.length q8', .slice p8 y3.ks.length q8] ∧ Below w.heap.size w wz) (by kernel_rfl) (hs0.out) (fun hS => ?_)
    generalize (w8.alloc (.cells #[.int .i64 y3.k, .int .i64 y3.n, .slice p8' y3.ls.length q8', .slice p8 y3.ks.length q8] 28)).drew = wd at hS T6 T7 T8 ⊢
    refine wpAnyH_take (i := 0) (v := ?_) rfl (by kernel_rfl) (by kernel_rfl) (by kernel_rfl) (fun _ _ _ h => h) (Or.inl ⟨by rfl, ?_⟩) hS ?_
    rotate_left
    · intro wz hz; go_simp; try with_reducible rfl
    try simp only [Act.put, List.setIfInBounds_toArray, List.set_cons_zero, List.set_cons_succ, List.getElem_toArray, List.getElem_cons_succ, List.getElem_cons_zero]
    refine wpAnyH_take (i := 1) (v := ?_) rfl (by kernel_rfl) (by kernel_rfl) (by kernel_rfl) (fun _ _ _ h => h) (Or.inl ⟨by rfl, ?_⟩) hS ?_
    rotate_left
    · intro wz hz; go_simp; try with_reducible rfl
    try simp only [Act.put, List.setIfInBounds_toArray, List.set_cons_zero, List.set_cons_succ, List.getElem_toArray, List.getElem_cons_succ, List.getElem_cons_zero]
    refine wpAnyH_take (i := 2) (v := ?_) rfl (by kernel_rfl) (by kernel_rfl) (by kernel_rfl) (fun _ _ _ h => h) (Or.inl ⟨by rfl, ?_⟩) hS ?_
    rotate_left
    · intro wz hz; go_simp; try with_reducible rfl
    try simp only [Act.put, List.setIfInBounds_toArray, List.set_cons_zero, List.set_cons_succ, List.getElem_toArray, List.getElem_cons_succ, List.getElem_cons_zero]
    refine wpAnyH_take (i := 3) (v := ?_) rfl (by kernel_rfl) (by kernel_rfl) (by kernel_rfl) (fun _ _ _ h => h) (Or.inl ⟨by rfl, ?_⟩) hS ?_
    rotate_left
    · intro wz hz; have yy0 := hz.1.cell; have yy1 := hz.2.1.cell; have yy2 := hz.2.2.1.cell; go_simp; try with_reducible rfl
    try simp only [Act.put, List.setIfInBounds_toArray, List.set_cons_zero, List.set_cons_succ, List.getElem_toArray, List.getElem_cons_succ, List.getElem_cons_zero]
    refine wpAnyH_take (i := 4) (v := ?_) rfl (by kernel_rfl) (by kernel_rfl) (by kernel_rfl) (fun _ _ _ h => h) (Or.inl ⟨by rfl, ?_⟩) hS ?_
    rotate_left
    · intro wz hz; have yy0 := hz.1.cell; have yy1 := hz.2.1.cell; have yy2 := hz.2.2.1.cell; go_simp; try with_reducible rfl
    try simp only [Act.put, List.setIfInBounds_toArray, List.set_cons_zero, List.set_cons_succ, List.getElem_toArray, List.getElem_cons_succ, List.getElem_cons_zero]
    refine wpAnyH_take (i := 5) (v := ?_) rfl (by kernel_rfl) (by kernel_rfl) (by kernel_rfl) (fun _ _ _ h => h) (Or.inl ⟨by rfl, ?_⟩) hS ?_
    rotate_left
    · intro wz hz; go_simp; try with_reducible rfl
    try simp only [Act.put, List.setIfInBounds_toArray, List.set_cons_zero, List.set_cons_succ, List.getElem_toArray, List.getElem_cons_succ, List.getElem_cons_zero]
    refine wpAnyH_take (i := 6) (v := ?_) rfl (by kernel_rfl) (by kernel_rfl) (by kernel_rfl) (fun _ _ _ h => h) (Or.inl ⟨by rfl, ?_⟩) hS ?_
    rotate_left
    · intro wz hz; have yy0 := hz.1.cell; have yy1 := hz.2.1.cell; have yy2 := hz.2.2.1.cell; go_simp; try with_reducible rfl
    try simp only [Act.put, List.setIfInBounds_toArray, List.set_cons_zero, List.set_cons_succ, List.getElem_toArray, List.getElem_cons_succ, List.getElem_cons_zero]
    refine wpAnyH_ready (rs := [7]) (by kernel_rfl) (by simp) (AllReadyH.cons rfl (fun K hK => ?a1_7) AllReadyH.nil)
    case' a1_7 =>
      go_simp
      refine (HPt.out _ _ _ _ _ _ _ _ _ _ _ T6.out T7.out).mono ?_
      rintro e wa ⟨⟨g', e', g, h', Na, rfl, hTa⟩, ba⟩
      have TA := hid hTa
      have T8 := hid (T8.out.below ba)
      refine hK.out _ _ (⟨hS.1.stays ba, hS.2.1.stays ba, hS.2.2.1.stays ba, bl_tr hS.2.2.2 ba⟩) (fun hSn => ?_)
      clear hK K hS
      have hS := hSn
      clear hSn
      try simp only [Act.put, List.setIfInBounds_toArray, List.set_cons_zero, List.set_cons_succ, List.getElem_toArray, List.getElem_cons_succ, List.getElem_cons_zero]
      clear ba hTa T6 T7
      refine wpAnyH_ready (rs := [8]) (by kernel_rfl) (by simp) (AllReadyH.cons rfl (fun K hK => ?a2_8) AllReadyH.nil)
      case' a2_8 =>
        go_simp
        refine (HSa.out _ _ _ _ _ _ _ _ _ _ _ T8.out TA.out).mono ?_
        rintro e wb ⟨rfl, bb⟩
        refine hK.out _ _ (⟨hS.1.stays bb, hS.2.1.stays bb, hS.2.2.1.stays bb, bl_tr hS.2.2.2 bb⟩) (fun hSn => ?_)
        clear hK K hS
        have hS := hSn
        clear hSn
        try simp only [Act.put, List.setIfInBounds_toArray, List.set_cons_zero, List.set_cons_succ, List.getElem_toArray, List.getElem_cons_succ, List.getElem_cons_zero]
        clear bb T8 TA
        refine wpAnyH_take (i := 9) (v := ?_) rfl (by kernel_rfl) (by kernel_rfl) (by kernel_rfl) (fun _ _ _ h => h) (Or.inl ⟨by rfl, ?_⟩) hS ?_
        rotate_left
        · intro wz hz; go_simp; try with_reducible rfl
        try simp only [Act.put, List.setIfInBounds_toArray, List.set_cons_zero, List.set_cons_succ, List.getElem_toArray, List.getElem_cons_succ, List.getElem_cons_zero]
        refine wpAnyH_take (i := 10) (v := ?_) rfl (by kernel_rfl) (by kernel_rfl) (by kernel_rfl) (fun _ _ _ h => h) (Or.inl ⟨by rfl, ?_⟩) hS ?_
        rotate_left
        · intro wz hz; go_simp; try with_reducible rfl
        try simp only [Act.put, List.setIfInBounds_toArray, List.set_cons_zero, List.set_cons_succ, List.getElem_toArray, List.getElem_cons_succ, List.getElem_cons_zero]
        refine wpAnyH_ready (rs := [11]) (by kernel_rfl) (by simp) (AllReadyH.cons rfl (fun K hK => ?a3_11) AllReadyH.nil)
        case' a3_11 =>
          go_simp
          refine (HAl.out _).mono ?_
          rintro e wc ⟨rfl, bc⟩
          refine hK.out _ _ (⟨hS.1.stays bc, hS.2.1.stays bc, hS.2.2.1.stays bc, bl_tr hS.2.2.2 bc⟩) (fun hSn => ?_)
          clear hK K hS
          have hS := hSn
          clear hSn
          try simp only [Act.put, List.setIfInBounds_toArray, List.set_cons_zero, List.set_cons_succ, List.getElem_toArray, List.getElem_cons_succ, List.getElem_cons_zero]
          clear bc
          refine wpAnyH_take (i := 12) (v := ?_) rfl (by kernel_rfl) (by kernel_rfl) (by kernel_rfl) (fun _ _ _ h => h) (Or.inl ⟨by rfl, ?_⟩) hS ?_
          rotate_left
          · intro wz hz; go_simp; try with_reducible rfl
          try simp only [Act.put, List.setIfInBounds_toArray, List.set_cons_zero, List.set_cons_succ, List.getElem_toArray, List.getElem_cons_succ, List.getElem_cons_zero]
          refine wpAnyH_ready (rs := [13]) (by kernel_rfl) (by simp) (AllReadyH.cons rfl (fun K hK => ?a4_13) AllReadyH.nil)
          case' a4_13 =>
            go_simp
            refine hK.out _ _ (hS) (fun hSn => ?_)
            clear hK K hS
            have hS := hSn
            clear hSn
            try simp only [Act.put, List.setIfInBounds_toArray, List.set_cons_zero, List.set_cons_succ, List.getElem_toArray, List.getElem_cons_succ, List.getElem_cons_zero]
            refine wpAnyH_done (by kernel_rfl) ?_ _
    all_goals (
      go_wp2
      go_ret
      exact ⟨rfl, hS.2.2.2⟩)
end Go.Proofs.YtigliglmejkakaaGreat
