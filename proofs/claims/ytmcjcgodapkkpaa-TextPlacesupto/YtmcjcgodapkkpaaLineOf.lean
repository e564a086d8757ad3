/- What lineOf comes to: the first line whose end is not ahead of the place. -/
import Derived.Test.YtmcjcgodapkkpaaIter
namespace Go.Proofs.Ytmcjcgodapkkpaa
open Go.RowKit Go.Shelf
set_option linter.unusedVariables false
attribute [local go_sem] Oper.semAt_some

theorem Tx.lines_hit {s : ByteArray} {k : Nat} (hk : k ≤ s.size) (h : ∀ y, y ∈ Tx.lines s → y.2 < k) : False := by
  obtain ⟨q, g, e⟩ := Tx.bnd_last s.data.toList 0 0
  have := h (g, 0 + s.data.toList.length) (by rw [Tx.lines, e]; simp)
  have eL : s.data.toList.length = s.size := by rw [Array.length_toList]; rfl
  simp at this
  omega

theorem Tx.lines_length (s : ByteArray) : (Tx.lines s).length ≤ s.size + 1 := by
  have := Tx.bnd_length s.data.toList 0 0
  have eL : s.data.toList.length = s.size := by rw [Array.length_toList]; rfl
  rw [Tx.lines]; omega

theorem Boxed.put {V : World} {B D : Nat} {v : Value} (h : Boxed V B 3 v) (hK : V.heap[D]? = some (.deferred (some []))) : Boxed (V.putObj D (.deferred none)) B 3 v :=
  h.kept (grownBy_putObj' V D (.deferred none)) (fun e => by cases e; rw [show V.heap[B]? = _ from h] at hK; cases hK)

/-- The end: the three named results lie in boxes; the rounds deferred nothing. -/
theorem lineOf_end {n D B1 B2 B3 : Nat} {V : World} {i1 i2 i3 : Int} {t0 t1 t2 t3 t7 t8 t9 t10 t11 t12 t13 t14 t15 t16 t17 t18 : Value} {R : Ending → World → Prop}
    (hK : V.heap[D]? = some (.deferred (some []))) (b1 : Boxed V B1 3 (.int .i64 i1)) (b2 : Boxed V B2 3 (.int .i64 i2)) (b3 : Boxed V B3 3 (.int .i64 i3))
    (hR : R (.returned (.tuple #[.int .i64 i1, .int .i64 i2, .int .i64 i3])) (V.putObj D (.deferred none))) :
    bodyPostM Fence.wide n Try.prog Try.f23 R .ret { tmps := #[t0, t1, t2, t3, .pointer (some ⟨B1, 0, none⟩), .pointer (some ⟨B2, 0, none⟩), .pointer (some ⟨B3, 0, none⟩), t7, t8, t9, t10, t11, t12, t13, t14, t15, t16, t17, t18], defers := [{ target := .collected D, args := #[] }] } V := by
  have c1 := (Boxed.put b1 hK).cell
  have c2 := (Boxed.put b2 hK).cell
  have c3 := (Boxed.put b3 hK).cell
  refine ⟨by simp, .inl ⟨_, _, rfl, run_takeDeferred hK, ?_⟩⟩
  refine ⟨.tuple #[.int .i64 i1, .int .i64 i2, .int .i64 i3], ?_, hR⟩
  simp [results, Try.f23, go_sem, c1, c2, c3]

set_option maxRecDepth 100000 in
set_option maxHeartbeats 2000000 in
theorem lineOf_in (n : Nat) (hn : 3 ≤ n) (s : ByteArray) (k : Nat) (hs : s.size ≤ 2097152) (hk : k ≤ s.size) (w : World) :
    CallsIn Fence.wide n Try.prog 23 #[.string s, .int .i64 k] w fun e W' => (∃ q x r, Tx.lines s = q ++ x :: r ∧ (∀ y, y ∈ q → y.2 < k) ∧ k ≤ x.2 ∧
      e = .returned (.tuple #[.int .i64 (q.length : Nat), .int .i64 (x.1 : Nat), .int .i64 (x.2 : Nat)])) ∧ Below w.heap.size w W' := by
  have h1 : 1 ≤ n := by omega
  refine callsIn_of_wp_marks Try.func23 rfl trivial ?_ rfl
  simp only [Try.ntmps23, List.size_toArray, List.length_cons, List.length_nil, Nat.reduceAdd, Nat.reduceSub, Array.replicate_succ, Array.replicate_zero, List.push_toArray, List.append_toArray, List.nil_append, List.cons_append]
  gi_wp2_with (refine ⟨trivial, ?_⟩; gi_at_call 25; refine (bounds_in _ _ _).mono ?_; rintro e w' ⟨rfl, rfl⟩)
  have bK := ((((Boxed.new w 3 (.int .i64 k)).alloc (.cells #[.int .i64 0] 3)).alloc (.cells #[.int .i64 0] 3)).alloc (.cells #[.int .i64 0] 3)).alloc (.cells #[.string s] 9)
  have bL := (((Boxed.new (w.alloc (.cells #[.int .i64 k] 3)) 3 (.int .i64 0)).alloc (.cells #[.int .i64 0] 3)).alloc (.cells #[.int .i64 0] 3)).alloc (.cells #[.string s] 9)
  have bF := ((Boxed.new ((w.alloc (.cells #[.int .i64 k] 3)).alloc (.cells #[.int .i64 0] 3)) 3 (.int .i64 0)).alloc (.cells #[.int .i64 0] 3)).alloc (.cells #[.string s] 9)
  have bT := (Boxed.new (((w.alloc (.cells #[.int .i64 k] 3)).alloc (.cells #[.int .i64 0] 3)).alloc (.cells #[.int .i64 0] 3)) 3 (.int .i64 0)).alloc (.cells #[.string s] 9)
  have bS := Boxed.new ((((w.alloc (.cells #[.int .i64 k] 3)).alloc (.cells #[.int .i64 0] 3)).alloc (.cells #[.int .i64 0] 3)).alloc (.cells #[.int .i64 0] 3)) 9 (.string s)
  have hB0 : Below w.heap.size w (((((w.alloc (.cells #[.int .i64 k] 3)).alloc (.cells #[.int .i64 0] 3)).alloc (.cells #[.int .i64 0] 3)).alloc (.cells #[.int .i64 0] 3)).alloc (.cells #[.string s] 9)) :=
    (((((Below.refl _ w).alloc (Nat.le_refl _) _).alloc (by simp) _).alloc (by simp; omega) _).alloc (by simp; omega) _).alloc (by simp; omega) _
  have hsz : (((((w.alloc (.cells #[.int .i64 k] 3)).alloc (.cells #[.int .i64 0] 3)).alloc (.cells #[.int .i64 0] 3)).alloc (.cells #[.int .i64 0] 3)).alloc (.cells #[.string s] 9)).heap.size = w.heap.size + 5 := by simp
  simp only [World.size_alloc] at bL bF bT bS
  obtain ⟨W0, hW0⟩ : ∃ W0, ((((w.alloc (.cells #[.int .i64 k] 3)).alloc (.cells #[.int .i64 0] 3)).alloc (.cells #[.int .i64 0] 3)).alloc (.cells #[.int .i64 0] 3)).alloc (.cells #[.string s] 9) = W0 := ⟨_, rfl⟩
  rw [hW0] at bK bL bF bT bS hB0 hsz ⊢
  clear hW0
  refine wpIn_rangeFunc_ownH rfl h1 (gf := 27) (lb := #[.pointer (some ⟨w.heap.size + 1 + 1 + 1 + 1, 0, none⟩)]) rfl trivial (enters_of Try.func27 (by kernel_rfl) rfl)
    (bounds_stops (n - 1) (by omega) (w.heap.size + 1 + 1 + 1 + 1) s (by unfold maxLen; omega) W0 bS) KpBox.t (KpBox.b (w := W0)) (Below.refl _ _) (fun _ => rfl)
    (fun pre W => (((Boxed W w.heap.size 3 (.int .i64 k) ∧ Boxed W (w.heap.size + 1) 3 (.int .i64 (pre.length : Nat))) ∧ (∃ f t, Boxed W (w.heap.size + 1 + 1) 3 f ∧ Boxed W (w.heap.size + 1 + 1 + 1) 3 t)) ∧ (∀ y, y ∈ pre → y.1.2 < k)) ∧ Below w.heap.size w W)
    (fun c pre W => (c = .exit 0 ∧ ∃ q x, pre = q ++ [x] ∧ (∀ y, y ∈ q → y.1.2 < k) ∧ k ≤ x.1.2 ∧ Boxed W (w.heap.size + 1) 3 (.int .i64 (q.length : Nat)) ∧ Boxed W (w.heap.size + 1 + 1) 3 (.int .i64 (x.1.1 : Nat)) ∧ Boxed W (w.heap.size + 1 + 1 + 1) 3 (.int .i64 (x.1.2 : Nat))) ∧ Below w.heap.size w W)
    (OwnFrom.and (OwnFrom.and (OwnFrom.and (OwnFrom.and (Own.from (boxed_own _ _ _) _) (Own.from (boxed_own _ _ _) _)) (Own.from (fun _ X Y row hs hg hr => by obtain ⟨f, t, h2, h3⟩ := hs; exact ⟨f, t, boxed_own _ 3 (fun (_ : Unit) => f) () X Y row h2 hg hr, boxed_own _ 3 (fun (_ : Unit) => t) () X Y row h3 hg hr⟩) _)) (ownFrom_pure _ _)) (ownFrom_below (Nat.le_refl _) (by omega)))
    (fun c => OwnFrom.and (Own.from (fun pre X Y row hs hg hr => by
      obtain ⟨rfl, q, x, e, hq, hx, h2, h3, h4⟩ := hs
      exact ⟨rfl, q, x, e, hq, hx, boxed_own _ 3 (fun (_ : Unit) => Value.int .i64 (q.length : Nat)) () X Y row h2 hg hr, boxed_own _ 3 (fun (_ : Unit) => Value.int .i64 (x.1.1 : Nat)) () X Y row h3 hg hr, boxed_own _ 3 (fun (_ : Unit) => Value.int .i64 (x.1.2 : Nat)) () X Y row h4 hg hr⟩) _) (ownFrom_below (Nat.le_refl _) (by omega)))
    ⟨⟨⟨⟨bK, bL⟩, _, _, bF, bT⟩, by simp⟩, hB0⟩
    (fun x a' W => Boxed W (w.heap.size + 1 + 1) 3 (.int .i64 (x.1.1 : Nat)) ∧ Boxed W (w.heap.size + 1 + 1 + 1) 3 (.int .i64 (x.1.2 : Nat)) ∧ a' = { tmps := #[.string s, .int .i64 k, undef, .pointer (some ⟨w.heap.size, 0, none⟩), .pointer (some ⟨w.heap.size + 1, 0, none⟩), .pointer (some ⟨w.heap.size + 1 + 1, 0, none⟩), .pointer (some ⟨w.heap.size + 1 + 1 + 1, 0, none⟩), .string s, .func (.func 27) #[] #[.pointer (some ⟨w.heap.size + 1 + 1 + 1 + 1, 0, none⟩)], .int .i64 (x.1.1 : Nat), .int .i64 (x.1.2 : Nat), undef, undef, undef, undef, undef, undef, undef, undef], defers := [] })
    (fun x a' _ X Y row hs hg hr => ⟨boxed_own _ 3 (fun (_ : Unit) => Value.int .i64 (x.1.1 : Nat)) () X Y row hs.1 hg (fun r e => (hr r e).2), boxed_own _ 3 (fun (_ : Unit) => Value.int .i64 (x.1.2 : Nat)) () X Y row hs.2.1 hg (fun r e => (hr r e).2), hs.2.2⟩)
    ?assign ?body ?done ?stop
  case assign =>
    rintro l pre x W K ⟨⟨⟨⟨bK1, bL1⟩, f, t, bF1, bT1⟩, hp⟩, hB1⟩ hK
    have cF := bF1.cell
    have fF := bF1.frozen
    have cT := bT1.cell
    have fT := bT1.frozen
    gi_wp2
    exact hK _ _ (((KeepsOthers.setCell _ _ _).trans (KeepsOthers.setCell _ _ _)).from _) (KpBox.t (KpBox.set (by omega) _) (KpBox.set (by omega) _))
      ⟨⟨⟨⟨(bK1.other (by omega) _).other (by omega) _, (bL1.other (by omega) _).other (by omega) _⟩, _, _, (bF1.set _).other (by omega) _, (bT1.other (by omega) _).set _⟩, hp⟩, (hB1.setCell (p := ⟨w.heap.size + 1 + 1, 0, none⟩) (by simp; omega) _).setCell (p := ⟨w.heap.size + 1 + 1 + 1, 0, none⟩) (by simp; omega) _⟩
      ⟨(bF1.set _).other (by omega) _, (bT1.other (by omega) _).set _, rfl⟩
  case body =>
    rintro l pre x a' W hl ⟨r, hr⟩ ⟨⟨⟨⟨bK1, bL1⟩, f, t, _, _⟩, hp⟩, hB1⟩ ⟨bF1, bT1, rfl⟩ hlt
    have cK := bK1.cell
    have cL := bL1.cell
    have fL := bL1.frozen
    have cT := bT1.cell
    have hll := Tx.lines_length s
    by_cases h : k ≤ x.1.2
    · gi_wp2
      exact ⟨KeepsFrom.refl _ _, ⟨rfl, pre, x, rfl, hp, h, bL1, bF1, bT1⟩, hB1⟩
    · gi_wp2
      exact ⟨(KeepsOthers.setCell _ _ _).from _, KpBox.set (by omega) _, ⟨⟨⟨bK1.other (by omega) _, by simpa using bL1.set _⟩, _, _, bF1.other (by omega) _, bT1.other (by omega) _⟩,
        fun y hy => by
          rcases List.mem_append.1 hy with hy | hy
          · exact hp y hy
          · simp at hy; subst hy; omega⟩, hB1.setCell (p := ⟨w.heap.size + 1, 0, none⟩) (by simp) _⟩
  case done =>
    rintro D ys W hD hys ⟨⟨⟨⟨bK1, bL1⟩, f, t, _, _⟩, hp⟩, hB1⟩ hK
    exact (Tx.lines_hit hk (fun y hy => by rw [← hys] at hy; obtain ⟨z, hz, rfl⟩ := List.mem_map.1 hy; exact hp z hz)).elim
  case stop =>
    rintro D c pre W hD hpre ⟨⟨rfl, q, x, rfl, hq, hx, bL1, bF1, bT1⟩, hB1⟩ hK
    have cL := bL1.cell
    have fL := bL1.frozen
    have cF := bF1.cell
    have fF := bF1.frozen
    have cT := bT1.cell
    have fT := bT1.frozen
    gi_wp2
    have hmx : Try.prog.follows .mixedOrders = true := by kernel_rfl
    have k1 : Boxed _ _ 3 _ := (((bL1.set (.int .i64 (q.length : Nat))).other (B' := w.heap.size + 1 + 1) (by omega) (.int .i64 (x.1.1 : Nat))).other (B' := w.heap.size + 1 + 1 + 1) (by omega) (.int .i64 (x.1.2 : Nat)))
    have k2 : Boxed _ _ 3 _ := (((bF1.other (B' := w.heap.size + 1) (by omega) (.int .i64 (q.length : Nat))).set (.int .i64 (x.1.1 : Nat))).other (B' := w.heap.size + 1 + 1 + 1) (by omega) (.int .i64 (x.1.2 : Nat)))
    have k3 : Boxed _ _ 3 _ := (((bT1.other (B' := w.heap.size + 1) (by omega) (.int .i64 (q.length : Nat))).other (B' := w.heap.size + 1 + 1) (by omega) (.int .i64 (x.1.1 : Nat))).set (.int .i64 (x.1.2 : Nat)))
    have kK := (((KeepsOthers.setCell W ⟨w.heap.size + 1, 0, none⟩ (.int .i64 (q.length : Nat))).trans (KeepsOthers.setCell _ ⟨w.heap.size + 1 + 1, 0, none⟩ (.int .i64 (x.1.1 : Nat)))).trans (KeepsOthers.setCell _ ⟨w.heap.size + 1 + 1 + 1, 0, none⟩ (.int .i64 (x.1.2 : Nat)))).same D _ hK rfl
    have kB := ((hB1.setCell (p := ⟨w.heap.size + 1, 0, none⟩) (by simp) (.int .i64 (q.length : Nat))).setCell (p := ⟨w.heap.size + 1 + 1, 0, none⟩) (by simp; omega) (.int .i64 (x.1.1 : Nat))).setCell (p := ⟨w.heap.size + 1 + 1 + 1, 0, none⟩) (by simp; omega) (.int .i64 (x.1.2 : Nat))
    obtain ⟨r, hr⟩ := hpre
    have HE : Hid (∃ q' x' r', Tx.lines s = q' ++ x' :: r' ∧ (∀ y, y ∈ q' → y.2 < k) ∧ k ≤ x'.2 ∧ q'.length = q.length ∧ x' = x.1) :=
      ⟨q.map (·.1), x.1, r, by rw [← hr]; simp, fun y hy => by obtain ⟨z, hz, rfl⟩ := List.mem_map.1 hy; exact hq z hz, hx, by simp, rfl⟩
    have hDw : w.heap.size ≤ D := by omega
    have KB : Hid (_ ∧ _) := ⟨kK, kB⟩
    have K3 : Hid (_ ∧ _ ∧ _) := ⟨k1, k2, k3⟩
    clear kK kB k1 k2 k3 hr hq hx hB1 hK
    gi_region_with_o (fail)
    all_goals gi_wp2
    all_goals
      obtain ⟨kK, kB⟩ := KB.out
      obtain ⟨k1, k2, k3⟩ := K3.out
      obtain ⟨q', x', r', e1, e2, e3, e4, rfl⟩ := HE.out
      exact lineOf_end kK k1 k2 k3 ⟨⟨q', x.1, r', e1, e2, e3, by rw [e4]⟩, (Below.drew kB).trans (belowK_b (w := w) (Nat.le_refl _) _ D _ _ hDw kK rfl rfl)⟩

theorem lineOf_any (s : ByteArray) (k : Nat) (hs : s.size ≤ 2097152) (hk : k ≤ s.size) (w : World) :
    Calls Try.prog 23 #[.string s, .int .i64 k] w fun e W' => (∃ q x r, Tx.lines s = q ++ x :: r ∧ (∀ y, y ∈ q → y.2 < k) ∧ k ≤ x.2 ∧
      e = .returned (.tuple #[.int .i64 (q.length : Nat), .int .i64 (x.1 : Nat), .int .i64 (x.2 : Nat)])) ∧ Below w.heap.size w W' :=
  callsIn_wide.1 (lineOf_in 3 (by omega) s k hs hk w)
end Go.Proofs.Ytmcjcgodapkkpaa
