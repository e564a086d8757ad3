/- bound. hidden. -/
import Derived.Test.YtigliglmejkakaaGreatRbg
namespace Go.Proofs.YtigliglmejkakaaGreat
open Go.RowKit Go.Shelf
set_option linter.unusedVariables false
set_option linter.unusedSimpArgs false
attribute [local go_sem] Oper.semAt_some

/-- What stands in bound's boxes. -/
def BnI (w : World) (KQ : Nat → Prop) (kind : Int) (y : Tgt.Tt) (pre : List {p : Nat × Int // Tgt.R64 p.2}) (W : World) : Prop :=
  ∃ (z : Tgt.Tt) (N : Nat) (az' az : Option Addr) (cz' cz : Nat), z = Tt.around kind ((pre.map (·.1.2)).reverse) y ∧ Arr W w.heap.size 3 [.int .i64 kind] ∧ Arr W (w.heap.size + 1) 28 [.int .i64 z.k, .int .i64 z.n, .slice az' z.ls.length cz', .slice az z.ks.length cz] ∧ Arr W (w.heap.size + 1 + 1) 28 [.int .i64 0, .int .i64 0, .slice none 0 0, .slice none 0 0] ∧ Tgt.TAt W (fun b => (KQ b ∧ b < w.heap.size) ∨ w.heap.size + 3 ≤ b) N [.int .i64 z.k, .int .i64 z.n, .slice az' z.ls.length cz', .slice az z.ks.length cz] z ∧ Below w.heap.size w W
theorem BnI.own (w : World) (KQ : Nat → Prop) (kind : Int) (y : Tgt.Tt) {B : Nat} (hB : w.heap.size ≤ B) : OwnFrom B (BnI w KQ kind y) := fun pre W W' row h hg hr => by
  obtain ⟨z, N, az', az, cz', cz, h1, h2, h3, h4, h5, h6⟩ := h
  have hk := keeps_row hg (fun r e => (hr r e).2)
  exact ⟨z, N, az', az, cz', cz, h1, hk.2 _ _ _ h2, hk.2 _ _ _ h3, hk.2 _ _ _ h4, h5.move (fun b o v _ hv => hk.1 b o v hv) (fun b hb => hb), h6.grown hg (by have := h2.lt; omega) (fun b e => by have := (hr b e).1; omega)⟩
theorem restL_rev (l : List Int) : ∀ j, j ≤ l.length → ((restL l j).map (·.2)).reverse = l.take j
  | 0, _ => rfl
  | j + 1, hj => by
    obtain ⟨x, hx⟩ : ∃ x, l[j]? = some x := ⟨_, List.getElem?_eq_getElem (by omega)⟩
    rw [restL, List.map_cons, List.reverse_cons, restL_rev l j (by omega), List.take_add_one, hx, List.getD_eq_getElem?_getD, hx]
    rfl
theorem ko_below {W W' : World} (h : Below W.heap.size W W') : KeepsOthers W W' := ⟨h.size, fun k o hk _ => by
  have hlt : k < W.heap.size := by
    rcases Nat.lt_or_ge k W.heap.size with h' | h'
    · exact h'
    · simp [Array.getElem?_eq_none h'] at hk
  exact (h.block k hlt).trans hk⟩

/-- The end: the result lies in its box; the rounds deferred nothing. -/
theorem bound_end {n D B : Nat} {V : World} {u0 u1 u2 u3 : Value} {t0 t1 t2 t3 t4 t5 t7 t8 t9 t10 t11 t12 t13 t14 t15 t16 t17 : Value} {R : Ending → World → Prop}
    (hK : V.heap[D]? = some (.deferred (some []))) (b : Arr V B 28 [u0, u1, u2, u3]) (hR : R (.returned (.agg #[u0, u1, u2, u3])) (V.putObj D (.deferred none))) :
    bodyPostM Fence.wide n Tryz.prog Tryz.f82 R .ret { tmps := #[t0, t1, t2, t3, t4, t5, .pointer (some ⟨B, 0, none⟩), t7, t8, t9, t10, t11, t12, t13, t14, t15, t16, t17], defers := [{ target := .collected D, args := #[] }] } V := by
  have b' : Arr (V.putObj D (.deferred none)) B 28 [u0, u1, u2, u3] := (keeps_row (grownBy_putObj' V D (.deferred none)) (fun r e => by cases e; exact ⟨_, hK, rfl⟩)).2 _ _ _ b
  have c := b'.cell
  have f := b'.frozen
  refine ⟨by simp, .inl ⟨_, _, rfl, run_takeDeferred hK, ?_⟩⟩
  refine ⟨.agg #[u0, u1, u2, u3], ?_, hR⟩
  simp [results, Tryz.f82, go_sem, c, f]

set_option maxRecDepth 100000 in
set_option maxHeartbeats 2000000 in
theorem bound_in (m : Nat) (hm : 3 ≤ m) (w : World) (KQ : Nat → Prop) (kind : Int) (hkind : Tgt.R64 kind) (la : Option Addr) (lc : Nat) (l : List Int) (hl : Ls w Any (.slice la l.length lc) l) (h64 : ∀ x ∈ l, Tgt.R64 x) (hln : l.length ≤ 1048576) (n : Nat) (y : Tgt.Tt) (a' a : Option Addr) (c' c : Nat) (hT : Tgt.TAt w KQ n [.int .i64 y.k, .int .i64 y.n, .slice a' y.ls.length c', .slice a y.ks.length c] y) :
    CallsIn Fence.wide m Tryz.prog 82 #[.int .i64 kind, .slice la l.length lc, .agg #[.int .i64 y.k, .int .i64 y.n, .slice a' y.ls.length c', .slice a y.ks.length c]] w fun e W' => (∃ p' q' p q N, e = .returned (.agg #[.int .i64 (Tt.around kind l y).k, .int .i64 (Tt.around kind l y).n, .slice p' (Tt.around kind l y).ls.length q', .slice p (Tt.around kind l y).ks.length q]) ∧ Tgt.TAt W' (fun b => (KQ b ∧ b < w.heap.size) ∨ w.heap.size + 3 ≤ b) N [.int .i64 (Tt.around kind l y).k, .int .i64 (Tt.around kind l y).n, .slice p' (Tt.around kind l y).ls.length q', .slice p (Tt.around kind l y).ks.length q] (Tt.around kind l y)) ∧ Below w.heap.size w W' := by
  have h1 : 1 ≤ m := by omega
  refine callsIn_of_wp_marks Tryz.func82 rfl trivial ?_ rfl
  simp only [Tryz.ntmps82, List.size_toArray, List.length_cons, List.length_nil, Nat.reduceAdd, Nat.reduceSub, Array.replicate_succ, Array.replicate_zero, List.push_toArray, List.append_toArray, List.nil_append, List.cons_append]
  gi_wp2_with (refine ⟨trivial, ?_⟩; gi_at_call 104; refine (backward_in _ _ _ _ _).mono ?_; rintro e w' ⟨rfl, rfl⟩)
  have hB4 : Below w.heap.size w ((((w.alloc (.cells #[.int .i64 kind] 3)).alloc (.cells #[.int .i64 y.k, .int .i64 y.n, .slice a' y.ls.length c', .slice a y.ks.length c] 28)).alloc (.cells #[.int .i64 0, .int .i64 0, .slice none 0 0, .slice none 0 0] 28)).alloc (.cells #[.slice la l.length lc] 38)) := bl_alloc (bl_alloc (bl_alloc (bl_alloc (Below.refl _ _) _) _) _) _
  have b0 : Arr ((((w.alloc (.cells #[.int .i64 kind] 3)).alloc (.cells #[.int .i64 y.k, .int .i64 y.n, .slice a' y.ls.length c', .slice a y.ks.length c] 28)).alloc (.cells #[.int .i64 0, .int .i64 0, .slice none 0 0, .slice none 0 0] 28)).alloc (.cells #[.slice la l.length lc] 38)) w.heap.size 3 [.int .i64 kind] := Arr.stays (w := w.alloc (.cells #[.int .i64 kind] 3)) ⟨heap_alloc_at _ _⟩ (bl_alloc (bl_alloc (bl_alloc (Below.refl _ _) _) _) _)
  have b1 : Arr ((((w.alloc (.cells #[.int .i64 kind] 3)).alloc (.cells #[.int .i64 y.k, .int .i64 y.n, .slice a' y.ls.length c', .slice a y.ks.length c] 28)).alloc (.cells #[.int .i64 0, .int .i64 0, .slice none 0 0, .slice none 0 0] 28)).alloc (.cells #[.slice la l.length lc] 38)) (w.heap.size + 1) 28 [.int .i64 y.k, .int .i64 y.n, .slice a' y.ls.length c', .slice a y.ks.length c] := Arr.stays (w := (w.alloc (.cells #[.int .i64 kind] 3)).alloc (.cells #[.int .i64 y.k, .int .i64 y.n, .slice a' y.ls.length c', .slice a y.ks.length c] 28)) ⟨by have := heap_alloc_at (w.alloc (.cells #[.int .i64 kind] 3)) (.cells #[.int .i64 y.k, .int .i64 y.n, .slice a' y.ls.length c', .slice a y.ks.length c] 28); rw [size_alloc] at this; exact this⟩ (bl_alloc (bl_alloc (Below.refl _ _) _) _)
  have b2 : Arr ((((w.alloc (.cells #[.int .i64 kind] 3)).alloc (.cells #[.int .i64 y.k, .int .i64 y.n, .slice a' y.ls.length c', .slice a y.ks.length c] 28)).alloc (.cells #[.int .i64 0, .int .i64 0, .slice none 0 0, .slice none 0 0] 28)).alloc (.cells #[.slice la l.length lc] 38)) (w.heap.size + 1 + 1) 28 [.int .i64 0, .int .i64 0, .slice none 0 0, .slice none 0 0] := Arr.stays (w := ((w.alloc (.cells #[.int .i64 kind] 3)).alloc (.cells #[.int .i64 y.k, .int .i64 y.n, .slice a' y.ls.length c', .slice a y.ks.length c] 28)).alloc (.cells #[.int .i64 0, .int .i64 0, .slice none 0 0, .slice none 0 0] 28)) ⟨by have := heap_alloc_at ((w.alloc (.cells #[.int .i64 kind] 3)).alloc (.cells #[.int .i64 y.k, .int .i64 y.n, .slice a' y.ls.length c', .slice a y.ks.length c] 28)) (.cells #[.int .i64 0, .int .i64 0, .slice none 0 0, .slice none 0 0] 28); rw [size_alloc, size_alloc] at this; exact this⟩ (bl_alloc (Below.refl _ _) _)
  have b3 : Arr ((((w.alloc (.cells #[.int .i64 kind] 3)).alloc (.cells #[.int .i64 y.k, .int .i64 y.n, .slice a' y.ls.length c', .slice a y.ks.length c] 28)).alloc (.cells #[.int .i64 0, .int .i64 0, .slice none 0 0, .slice none 0 0] 28)).alloc (.cells #[.slice la l.length lc] 38)) (w.heap.size + 1 + 1 + 1) 38 [.slice la l.length lc] := ⟨by have := heap_alloc_at (((w.alloc (.cells #[.int .i64 kind] 3)).alloc (.cells #[.int .i64 y.k, .int .i64 y.n, .slice a' y.ls.length c', .slice a y.ks.length c] 28)).alloc (.cells #[.int .i64 0, .int .i64 0, .slice none 0 0, .slice none 0 0] 28)) (.cells #[.slice la l.length lc] 38); rw [size_alloc, size_alloc, size_alloc] at this; exact this⟩
  have hsz : ((((w.alloc (.cells #[.int .i64 kind] 3)).alloc (.cells #[.int .i64 y.k, .int .i64 y.n, .slice a' y.ls.length c', .slice a y.ks.length c] 28)).alloc (.cells #[.int .i64 0, .int .i64 0, .slice none 0 0, .slice none 0 0] 28)).alloc (.cells #[.slice la l.length lc] 38)).heap.size = w.heap.size + 4 := by simp
  have hI0 : BnI w KQ kind y [] ((((w.alloc (.cells #[.int .i64 kind] 3)).alloc (.cells #[.int .i64 y.k, .int .i64 y.n, .slice a' y.ls.length c', .slice a y.ks.length c] 28)).alloc (.cells #[.int .i64 0, .int .i64 0, .slice none 0 0, .slice none 0 0] 28)).alloc (.cells #[.slice la l.length lc] 38)) := ⟨y, n, a', a, c', c, rfl, b0, b1, b2, (hT.old.below hB4).move (Tgt.Keeps.refl _ _) (fun b hb => .inl hb), hB4⟩
  have hL4 := hl.below hB4
  obtain ⟨W0, hW0⟩ : ∃ W0, ((((w.alloc (.cells #[.int .i64 kind] 3)).alloc (.cells #[.int .i64 y.k, .int .i64 y.n, .slice a' y.ls.length c', .slice a y.ks.length c] 28)).alloc (.cells #[.int .i64 0, .int .i64 0, .slice none 0 0, .slice none 0 0] 28)).alloc (.cells #[.slice la l.length lc] 38)) = W0 := ⟨_, rfl⟩
  rw [hW0] at hI0 b3 hsz hB4 hL4
  rw [hW0]
  clear hW0 b0 b1 b2 hT
  refine wpIn_rangeFunc_ownH rfl h1 (gf := 124) (lb := #[.pointer (some ⟨w.heap.size + 1 + 1 + 1, 0, none⟩)]) rfl trivial (enters_of Tryz.func124 (by kernel_rfl) rfl)
    (backward_stops (m - 1) (by omega) (w.heap.size + 1 + 1 + 1) _ l hln h64 W0 ⟨b3, hL4⟩) KpI.t (KpI.b (w := W0)) (Below.refl _ _) (fun _ => rfl)
    (BnI w KQ kind y) (fun _ _ _ => False) (BnI.own w KQ kind y (by omega)) (fun c s W W' row h _ _ => h) hI0
    (fun x A W => A = { tmps := #[.int .i64 kind, .slice la l.length lc, .agg #[.int .i64 y.k, .int .i64 y.n, .slice a' y.ls.length c', .slice a y.ks.length c], .pointer (some ⟨w.heap.size, 0, none⟩), undef, .pointer (some ⟨w.heap.size + 1, 0, none⟩), .pointer (some ⟨w.heap.size + 1 + 1, 0, none⟩), undef, .int .i64 x.1.2, .slice la l.length lc, .func (.func 124) #[] #[.pointer (some ⟨w.heap.size + 1 + 1 + 1, 0, none⟩)], .int .i64 (x.1.1 : Nat), .int .i64 x.1.2, undef, undef, undef, undef, undef], defers := [] }) (fun x A _ X Y row hs hg hr => hs)
    ?assign ?body ?done ?stop
  case assign =>
    rintro L pre x W K hI hK
    gi_wp2
    exact hK _ _ (KeepsFrom.refl _ _) (fun h => h) hI rfl
  case body =>
    rintro L pre x A W hLs ⟨r, hr⟩ ⟨z, N, az', az, cz', cz, hz, b0, b1, b2, hT, hB⟩ rfl hlt
    have HZ := hid hz
    clear hz
    have c0 := b0.cell 0
    have c1 := b1.cell
    have f1 := b1.frozen
    have hsW := b2.lt
    have HBi := (binder_any W (fun b => (KQ b ∧ b < w.heap.size) ∨ w.heap.size + 3 ≤ b) N kind x.1.2 z az' az cz' cz hkind x.2 hT (fun b hb => .inr (by omega)))
    simp only [List.getElem?_cons_zero] at c0
    gi_wp2
    refine ⟨trivial, fun h => by simp [Fence.wide] at h, CallsIn.inRound L ((callsIn_wide.2 HBi).mono ?_)⟩
    rintro e W3 ⟨a3, c3, rfl, hT3, b3'⟩
    have e1 := (b1.stays b3').cell
    have e2 := (b1.stays b3').frozen
    have HT3 := hid hT3
    have HB3 := hid b3'
    have B1 := hid b1
    have B0 := hid b0
    have B2 := hid b2
    clear hT3 b3' HBi hT b1 b0 b2
    gi_wp2
    have hK : ∀ (W : World) i u, Tgt.Keeps (fun b => (KQ b ∧ b < w.heap.size) ∨ w.heap.size + 3 ≤ b) W (W.setCell ⟨w.heap.size + 1, i, none⟩ u) := fun W i u b o v hb hv => by have hb : (KQ b ∧ b < w.heap.size) ∨ w.heap.size + 3 ≤ b := hb; rw [World.cell?_of_block (w := W) (Below.heap_setCell _ _ _ _ (by show b ≠ w.heap.size + 1; omega))]; exact hv
    have hs : ∀ (W : World) i u, Below w.heap.size w W → Below w.heap.size w (W.setCell ⟨w.heap.size + 1, i, none⟩ u) := fun W i u h => bl_set _ _ h (by show _ ≤ w.heap.size + 1; omega)
    have ho1 : ∀ (W : World) i u bb T cur, bb ≠ w.heap.size + 1 → Arr W bb T cur → Arr (W.setCell ⟨w.heap.size + 1, i, none⟩ u) bb T cur := fun W i u bb T cur hne h => h.other (p := ⟨w.heap.size + 1, i, none⟩) hne u
    have hB' := hs _ 3 (.slice a3 1 c3) (hs _ 2 (.slice none 0 0) (hs _ 1 (.int .i64 x.1.2) (hs _ 0 (.int .i64 kind) (bl_tr hB HB3.out))))
    refine ⟨(((((ko_below HB3.out).trans (KeepsOthers.setCell _ _ _)).trans (KeepsOthers.setCell _ _ _)).trans (KeepsOthers.setCell _ _ _)).trans (KeepsOthers.setCell _ _ _)).from _, fun h => ⟨ho1 _ _ _ _ _ _ (by omega) (ho1 _ _ _ _ _ _ (by omega) (ho1 _ _ _ _ _ _ (by omega) (ho1 _ _ _ _ _ _ (by omega) (h.1.stays HB3.out)))), hl.below hB'⟩, ?_⟩
    exact ⟨.mk kind x.1.2 [] [z], N + 1, none, a3, 0, c3, by rw [HZ.out]; simp [Tt.around], ho1 _ _ _ _ _ _ (by omega) (ho1 _ _ _ _ _ _ (by omega) (ho1 _ _ _ _ _ _ (by omega) (ho1 _ _ _ _ _ _ (by omega) (B0.out.stays HB3.out)))),
      ((((B1.out.stays HB3.out).set 0 _).set 1 _).set 2 _).set 3 _, ho1 _ _ _ _ _ _ (by omega) (ho1 _ _ _ _ _ _ (by omega) (ho1 _ _ _ _ _ _ (by omega) (ho1 _ _ _ _ _ _ (by omega) (B2.out.stays HB3.out)))),
      HT3.out.move (((hK _ _ _).trans (hK _ _ _)).trans ((hK _ _ _).trans (hK _ _ _))) (fun b hb => hb), hB'⟩
  case done =>
    rintro D ys W hD hys ⟨z, N, az', az, cz', cz, hz, b0, b1, b2, hT, hB⟩ hK
    have hzl : z = Tt.around kind l y := by
      rw [hz]
      have e := congrArg (fun q => (q.map (·.2)).reverse) hys
      simp only [List.map_map] at e
      rw [restL_rev l l.length (Nat.le_refl _), List.take_length] at e
      rw [← e]; rfl
    have HZ := hid hzl
    have hne : D ≠ w.heap.size + 1 + 1 := by omega
    have HK0 := hid hK
    have HT := hid hT
    have HB := hid hB
    have B2 := hid b2
    have c1 := b1.cell
    have c2 := b2.cell
    have f2 := b2.frozen
    clear hz hzl hT hB b0 b1 b2 hys hK
    gi_wp2
    have hs : ∀ (W : World) i u, Below w.heap.size w W → Below w.heap.size w (W.setCell ⟨w.heap.size + 1 + 1, i, none⟩ u) := fun W i u h => bl_set _ _ h (by show _ ≤ w.heap.size + 1 + 1; omega)
    have hKk : ∀ (W : World) i u, Tgt.Keeps (fun b => (KQ b ∧ b < w.heap.size) ∨ w.heap.size + 3 ≤ b) W (W.setCell ⟨w.heap.size + 1 + 1, i, none⟩ u) := fun W i u b o v hb hv => by have hb : (KQ b ∧ b < w.heap.size) ∨ w.heap.size + 3 ≤ b := hb; rw [World.cell?_of_block (w := W) (Below.heap_setCell _ _ _ _ (by show b ≠ w.heap.size + 1 + 1; omega))]; exact hv
    have hD1 : ∀ (W : World) i u o, W.heap[D]? = some o → (W.setCell ⟨w.heap.size + 1 + 1, i, none⟩ u).heap[D]? = some o := fun W i u o h => (Below.heap_setCell _ _ _ _ (by show D ≠ w.heap.size + 1 + 1; omega)).trans h
    refine bound_end (hD1 _ _ _ _ (hD1 _ _ _ _ (hD1 _ _ _ _ (hD1 _ _ _ _ HK0.out)))) ((((B2.out.set 0 _).set 1 _).set 2 _).set 3 _) ?_
    have hk := keeps_row (grownBy_putObj' _ D (.deferred none)) (fun r e => by cases e; exact ⟨_, hD1 _ 3 (.slice az z.ks.length cz) _ (hD1 _ 2 (.slice az' z.ls.length cz') _ (hD1 _ 1 (.int .i64 z.n) _ (hD1 _ 0 (.int .i64 z.k) _ HK0.out))), rfl⟩)
    have hT' := (HT.out.move (((hKk _ 0 (.int .i64 z.k)).trans (hKk _ 1 (.int .i64 z.n))).trans ((hKk _ 2 (.slice az' z.ls.length cz')).trans (hKk _ 3 (.slice az z.ks.length cz)))) (fun b hb => hb)).move (fun b o v _ hv => hk.1 b o v hv) (fun b hb => hb)
    have hB' := hs _ 3 (.slice az z.ks.length cz) (hs _ 2 (.slice az' z.ls.length cz') (hs _ 1 (.int .i64 z.n) (hs _ 0 (.int .i64 z.k) HB.out)))
    rw [← HZ.out]
    exact ⟨⟨_, _, _, _, _, rfl, hT'⟩, hB'.trans (belowK_b (w := w) (Nat.le_refl _) _ D _ _ (by omega) (hD1 _ _ _ _ (hD1 _ _ _ _ (hD1 _ _ _ _ (hD1 _ _ _ _ HK0.out)))) rfl rfl)⟩
  case stop =>
    rintro D c pre W hD hpre h hK
    exact h.elim
theorem bound_all (w : World) (KQ : Nat → Prop) (kind : Int) (hkind : Tgt.R64 kind) (la : Option Addr) (lc : Nat) (l : List Int) (hl : Ls w Any (.slice la l.length lc) l) (h64 : ∀ x ∈ l, Tgt.R64 x) (hln : l.length ≤ 1048576) (n : Nat) (y : Tgt.Tt) (a' a : Option Addr) (c' c : Nat) (hT : Tgt.TAt w KQ n [.int .i64 y.k, .int .i64 y.n, .slice a' y.ls.length c', .slice a y.ks.length c] y) :
    Calls Tryz.prog 82 #[.int .i64 kind, .slice la l.length lc, .agg #[.int .i64 y.k, .int .i64 y.n, .slice a' y.ls.length c', .slice a y.ks.length c]] w fun e W' => (∃ p' q' p q N, e = .returned (.agg #[.int .i64 (Tt.around kind l y).k, .int .i64 (Tt.around kind l y).n, .slice p' (Tt.around kind l y).ls.length q', .slice p (Tt.around kind l y).ks.length q]) ∧ Tgt.TAt W' (fun b => (KQ b ∧ b < w.heap.size) ∨ w.heap.size + 3 ≤ b) N [.int .i64 (Tt.around kind l y).k, .int .i64 (Tt.around kind l y).n, .slice p' (Tt.around kind l y).ls.length q', .slice p (Tt.around kind l y).ks.length q] (Tt.around kind l y)) ∧ Below w.heap.size w W' :=
  callsIn_wide.1 (bound_in 3 (by omega) w KQ kind hkind la lc l hl h64 hln n y a' a c' c hT)
end Go.Proofs.YtigliglmejkakaaGreat

namespace Go.Proofs.YtigliglmejkakaaGreat
open Go.RowKit Go.Shelf
set_option linter.unusedVariables false
set_option linter.unusedSimpArgs false

def hidA (l : List Int) (a : An) : An := if bindE [] l = 0 then (if a.2 = 0 then (Tt.around 11 l a.1, 0) else (zeroA, a.2)) else (zeroA, bindE [] l)

set_option maxRecDepth 100000 in
set_option maxHeartbeats 2000000 in
theorem hidden_of (w : World) (pb po : Nat) (la : Option Addr) (lc : Nat) (l : List Int) (hc : w.cell? ⟨pb, po, none⟩ = some (.slice la l.length lc)) (hl : Ls w Any (.slice la l.length lc) l) (h64 : ∀ x ∈ l, Tgt.R64 x) (hln : l.length ≤ 1048576) (a : An)
    (HR : ∀ W, Below w.heap.size w W → Calls Tryz.prog 43 #[.pointer (some ⟨pb, po + 1, none⟩)] W (AnsOf W a)) :
    Calls Tryz.prog 42 #[.pointer (some ⟨pb, po, none⟩)] w (AnsOf w (hidA l a)) := by
  have hpb := World.block_lt_of_cell? _ _ hc
  have HB1 : Hid (Below w.heap.size w (w.alloc (.cells #[.int .i64 0, .int .i64 0, .slice none 0 0, .slice none 0 0] 28))) := bl_alloc (Below.refl _ _) _
  have Y1 : Hid (Arr (w.alloc (.cells #[.int .i64 0, .int .i64 0, .slice none 0 0, .slice none 0 0] 28)) w.heap.size 28 [.int .i64 0, .int .i64 0, .slice none 0 0, .slice none 0 0]) := ⟨heap_alloc_at _ _⟩
  have c1 := (HB1.out.cell (p := ⟨pb, po, none⟩) hpb).trans hc
  have HMB := hid (mayBind_all (w.alloc (.cells #[.int .i64 0, .int .i64 0, .slice none 0 0, .slice none 0 0] 28)) _ l (hl.below HB1.out) h64 hln)
  have HSS : Hid (∀ (W : World) i u, Below w.heap.size w W → Below w.heap.size w (W.setCell ⟨w.heap.size, i, none⟩ u)) := fun W i u h => bl_set _ _ h (Nat.le_refl _)
  have HL := hid hl
  have H64 := hid h64
  have HRR := hid HR
  have HC := hid hc
  clear hl HR h64 hc
  go_enter Tryz.func42, Tryz.ntmps42
  go_wp2_with (first | (go_at_call 81; refine HMB.out.mono ?_; rintro e w2 ⟨rfl, bl2⟩; have HB2 := hid (bl_tr HB1.out bl2); have Y2 := hid (Y1.out.stays bl2); have y2 := Y2.out.cell; have hw2 := Y2.out.lt; have z2 := Y2.out.frozen; have c2 := (HB2.out.cell (p := ⟨pb, po, none⟩) hpb).trans HC.out; clear bl2 c1) | (go_at_call 43; refine (HRR.out w2 HB2.out).mono ?_; rintro e w3 ⟨⟨p', q', p, q, N, rfl, hT3⟩, bl3⟩; have HT3 := hid hT3; have bl3' := bl_alloc bl3 (.cells #[.int .i64 a.1.k, .int .i64 a.1.n, .slice p' a.1.ls.length q', .slice p a.1.ks.length q] 28); have HB3 := hid (bl_tr HB2.out bl3'); have Y3 := hid (Y2.out.stays bl3'); have X3 : Hid (Arr (w3.alloc (.cells #[.int .i64 a.1.k, .int .i64 a.1.n, .slice p' a.1.ls.length q', .slice p a.1.ks.length q] 28)) w3.heap.size 28 [.int .i64 a.1.k, .int .i64 a.1.n, .slice p' a.1.ls.length q', .slice p a.1.ks.length q]) := ⟨heap_alloc_at _ _⟩; have x3 := X3.out.cell; have hw3 := (Y2.out.stays bl3).lt; have y3' := (Y2.out.stays bl3).cell; have z3' := (Y2.out.stays bl3).frozen; have hne : ¬ w.heap.size = w3.heap.size := (by omega); have y3 := Y3.out.cell; have z3 := Y3.out.frozen; have c3 := (HB3.out.cell (p := ⟨pb, po, none⟩) hpb).trans HC.out; have H23 := hid bl3; clear bl3 bl3' hT3 c2 y2 z2))
  · have hE : bindE [] l ≠ 0 := by have hq : (bindE [] l != 0) = true := by assumption
                                   simpa using hq
    refine bodyPost_ret (v := .tuple #[.agg #[.int .i64 0, .int .i64 0, .slice none 0 0, .slice none 0 0], .int .i64 (bindE [] l)]) (by rw [results_cell2t (fn := Tryz.f42) (p := 2) (a := 3) (ty := 28) (by kernel_rfl)]; simp [go_sem, y2, z2]) rfl ?_
    rw [show hidA l a = (zeroA, bindE [] l) from by unfold hidA; rw [if_neg hE]]
    exact AnsOf.err _ (HSS.out _ _ _ (HSS.out _ _ _ (HSS.out _ _ _ (HSS.out _ _ _ HB2.out))))
  · have hE : bindE [] l = 0 := by have hq : (bindE [] l != 0) = false := by assumption
                                   simpa using hq
    have hA : a.2 ≠ 0 := by have hq : (a.2 != 0) = true := by assumption
                            simpa using hq
    refine bodyPost_ret (v := .tuple #[.agg #[.int .i64 0, .int .i64 0, .slice none 0 0, .slice none 0 0], .int .i64 a.2]) (by rw [results_cell2t (fn := Tryz.f42) (p := 2) (a := 3) (ty := 28) (by kernel_rfl)]; simp [go_sem, y3', z3', hw3, hne]) rfl ?_
    rw [show hidA l a = (zeroA, a.2) from by unfold hidA; rw [if_pos hE, if_neg hA]]
    exact AnsOf.err _ (bl_alloc (HSS.out _ _ _ (HSS.out _ _ _ (HSS.out _ _ _ (HSS.out _ _ _ (bl_tr HB2.out H23.out))))) _)
  · have hE : bindE [] l = 0 := by have hq : (bindE [] l != 0) = false := by assumption
                                   simpa using hq
    have hA : a.2 = 0 := by have hq : (a.2 != 0) = false := by assumption
                            simpa using hq
    have HHA : Hid (hidA l a = (Tt.around 11 l a.1, 0)) := by show _ = _; unfold hidA; rw [if_pos hE, if_pos hA]
    obtain ⟨R, hR⟩ : ∃ R, Tt.around 11 l a.1 = R := ⟨_, rfl⟩
    rw [hR] at HHA
    have HRe := hid hR
    clear hR y3' z3' y3 z3 x3 c3
    have HDB : Hid (Below (w3.alloc (.cells #[.int .i64 a.1.k, .int .i64 a.1.n, .slice p' a.1.ls.length q', .slice p a.1.ks.length q] 28)).heap.size (w3.alloc (.cells #[.int .i64 a.1.k, .int .i64 a.1.n, .slice p' a.1.ls.length q', .slice p a.1.ks.length q] 28)) (w3.alloc (.cells #[.int .i64 a.1.k, .int .i64 a.1.n, .slice p' a.1.ls.length q', .slice p a.1.ks.length q] 28)).drew) := (Below.refl _ _).drew
    have hs0 : Hid (Arr (w3.alloc (.cells #[.int .i64 a.1.k, .int .i64 a.1.n, .slice p' a.1.ls.length q', .slice p a.1.ks.length q] 28)).drew w3.heap.size 28 [.int .i64 a.1.k, .int .i64 a.1.n, .slice p' a.1.ls.length q', .slice p a.1.ks.length q] ∧ Below w.heap.size w (w3.alloc (.cells #[.int .i64 a.1.k, .int .i64 a.1.n, .slice p' a.1.ls.length q', .slice p a.1.ks.length q] 28)).drew) := ⟨X3.out.stays HDB.out, bl_tr HB3.out HDB.out⟩
    have HYd := hid (Y3.out.stays HDB.out)
    have HTd := hid ((HT3.out.below (bl_alloc (Below.refl _ _) (.cells #[.int .i64 a.1.k, .int .i64 a.1.n, .slice p' a.1.ls.length q', .slice p a.1.ks.length q] 28))).below HDB.out)
    clear X3 HB3 Y3 HT3 HDB
    refine wp_region_held_drew (S := fun wz => Arr wz w3.heap.size 28 [.int .i64 a.1.k, .int .i64 a.1.n, .slice p' a.1.ls.length q', .slice p a.1.ks.length q] ∧ Below w.heap.size w wz) (by kernel_rfl) (hs0.out) (fun hS => ?_)
    generalize (w3.alloc (.cells #[.int .i64 a.1.k, .int .i64 a.1.n, .slice p' a.1.ls.length q', .slice p a.1.ks.length q] 28)).drew = wd at hS HTd HYd ⊢
    refine wpAnyH_take (i := 0) (v := ?_) rfl (by kernel_rfl) (by kernel_rfl) (by kernel_rfl) (fun _ _ _ h => h) (Or.inl ⟨by rfl, ?_⟩) hS ?_
    rotate_left
    · intro wz hz; go_simp; try with_reducible rfl
    try simp only [Act.put, List.setIfInBounds_toArray, List.set_cons_zero, List.set_cons_succ, List.getElem_toArray, List.getElem_cons_succ, List.getElem_cons_zero]
    refine wpAnyH_take (i := 1) (v := ?_) rfl (by kernel_rfl) (by kernel_rfl) (by kernel_rfl) (fun _ _ _ h => h) (Or.inl ⟨by rfl, ?_⟩) hS ?_
    rotate_left
    · intro wz hz; go_simp; try with_reducible rfl
    try simp only [Act.put, List.setIfInBounds_toArray, List.set_cons_zero, List.set_cons_succ, List.getElem_toArray, List.getElem_cons_succ, List.getElem_cons_zero]
    refine wpAnyH_take (i := 2) (v := ?_) rfl (by kernel_rfl) (by kernel_rfl) (by kernel_rfl) (fun _ _ _ h => h) (Or.inl ⟨by rfl, ?_⟩) hS ?_
    rotate_left
    · intro wz hz; go_simp; try with_reducible rfl
    try simp only [Act.put, List.setIfInBounds_toArray, List.set_cons_zero, List.set_cons_succ, List.getElem_toArray, List.getElem_cons_succ, List.getElem_cons_zero]
    refine wpAnyH_take (i := 3) (v := ?_) rfl (by kernel_rfl) (by kernel_rfl) (by kernel_rfl) (fun _ _ _ h => h) (Or.inl ⟨by rfl, ?_⟩) hS ?_
    rotate_left
    · intro wz hz; have yy0 := hz.1.cell; have yy1 := (hz.2.cell (p := ⟨pb, po, none⟩) hpb).trans HC.out; go_simp; try with_reducible rfl
    try simp only [Act.put, List.setIfInBounds_toArray, List.set_cons_zero, List.set_cons_succ, List.getElem_toArray, List.getElem_cons_succ, List.getElem_cons_zero]
    refine wpAnyH_take (i := 4) (v := ?_) rfl (by kernel_rfl) (by kernel_rfl) (by kernel_rfl) (fun _ _ _ h => h) (Or.inl ⟨by rfl, ?_⟩) hS ?_
    rotate_left
    · intro wz hz; have yy0 := hz.1.cell; have yy1 := (hz.2.cell (p := ⟨pb, po, none⟩) hpb).trans HC.out; go_simp; try with_reducible rfl
    try simp only [Act.put, List.setIfInBounds_toArray, List.set_cons_zero, List.set_cons_succ, List.getElem_toArray, List.getElem_cons_succ, List.getElem_cons_zero]
    refine wpAnyH_ready (rs := [5]) (by kernel_rfl) (by simp) (AllReadyH.cons rfl (fun K hK => ?a1_5) AllReadyH.nil)
    case' a1_5 =>
      go_simp
      have hbo := bound_all wd (fun b => w2.heap.size ≤ b) 11 ⟨by omega, by omega⟩ la lc l (HL.out.below hS.2) H64.out hln N a.1 p' p q' q HTd.out
      rw [HRe.out] at hbo
      refine Calls.mono hbo ?_
      clear hbo
      rintro e w7 ⟨⟨pp', qq', pp, qq, NN, rfl, hT7⟩, b7⟩
      have HT7 := hid hT7
      have Y7 := hid (HYd.out.stays b7)
      have y7 := Y7.out.cell
      have z7 := Y7.out.frozen
      have hwd := HYd.out.lt
      refine hK.out _ _ (⟨hS.1.stays b7, bl_tr hS.2 b7⟩) (fun hSn => ?_)
      clear hK K hS
      have hS := hSn
      clear hSn
      try simp only [Act.put, List.setIfInBounds_toArray, List.set_cons_zero, List.set_cons_succ, List.getElem_toArray, List.getElem_cons_succ, List.getElem_cons_zero]
      clear b7 hT7 HTd HYd
      refine wpAnyH_ready (rs := [6]) (by kernel_rfl) (by simp) (AllReadyH.cons rfl (fun K hK => ?a2_6) AllReadyH.nil)
      case' a2_6 =>
        go_simp
        refine hK.out _ _ (⟨(((hS.1.other (p := ⟨w.heap.size, 0, none⟩) (by show w3.heap.size ≠ w.heap.size; omega) _).other (p := ⟨w.heap.size, 1, none⟩) (by show w3.heap.size ≠ w.heap.size; omega) _).other (p := ⟨w.heap.size, 2, none⟩) (by show w3.heap.size ≠ w.heap.size; omega) _).other (p := ⟨w.heap.size, 3, none⟩) (by show w3.heap.size ≠ w.heap.size; omega) _, HSS.out _ _ _ (HSS.out _ _ _ (HSS.out _ _ _ (HSS.out _ _ _ hS.2)))⟩) (fun hSn => ?_)
        clear hK K hS
        have hS := hSn
        clear hSn
        try simp only [Act.put, List.setIfInBounds_toArray, List.set_cons_zero, List.set_cons_succ, List.getElem_toArray, List.getElem_cons_succ, List.getElem_cons_zero]
        refine wpAnyH_ready (rs := [7]) (by kernel_rfl) (by simp) (AllReadyH.cons rfl (fun K hK => ?a3_7) AllReadyH.nil)
        case' a3_7 =>
          go_simp
          refine hK.out _ _ (hS) (fun hSn => ?_)
          clear hK K hS
          have hS := hSn
          clear hSn
          try simp only [Act.put, List.setIfInBounds_toArray, List.set_cons_zero, List.set_cons_succ, List.getElem_toArray, List.getElem_cons_succ, List.getElem_cons_zero]
          refine wpAnyH_done (by kernel_rfl) ?_ _
    all_goals (
      go_wp2
      refine bodyPost_ret (v := .tuple #[.agg #[.int .i64 R.k, .int .i64 R.n, .slice pp' R.ls.length qq', .slice pp R.ks.length qq], .int .i64 0]) (by rw [results_cell2t (fn := Tryz.f42) (p := 2) (a := 3) (ty := 28) (by kernel_rfl)]; simp [go_sem, y7, z7]) rfl ?_
      rw [HHA.out]
      have hK : ∀ (W : World) i u, Tgt.Keeps (fun b => (w2.heap.size ≤ b ∧ b < wd.heap.size) ∨ wd.heap.size + 3 ≤ b) W (W.setCell ⟨w.heap.size, i, none⟩ u) := fun W i u b o v hb hv => by have hb : (w2.heap.size ≤ b ∧ b < wd.heap.size) ∨ wd.heap.size + 3 ≤ b := hb; rw [World.cell?_of_block (w := W) (Below.heap_setCell _ _ _ _ (by show b ≠ w.heap.size; omega))]; exact hv
      exact ⟨⟨pp', qq', pp, qq, _, rfl, HT7.out.move (((hK _ _ _).trans (hK _ _ _)).trans ((hK _ _ _).trans (hK _ _ _))) (fun b hb => by have hb : (w2.heap.size ≤ b ∧ b < wd.heap.size) ∨ wd.heap.size + 3 ≤ b := hb; show w.heap.size ≤ b; omega)⟩, hS.2⟩)
end Go.Proofs.YtigliglmejkakaaGreat
