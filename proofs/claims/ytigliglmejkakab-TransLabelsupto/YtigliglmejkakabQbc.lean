/- A range over slices.Backward of ints; bound. bound. -/
import Derived.RangeFuncNested
import Derived.RangeFuncBound
import Derived.RangeFuncCalls
import Derived.RangeFuncLeaves
import Derived.Shelf.RegionOpen
import Derived.WalkKit
import Derived.OwnWalkIn
import Derived.TacticsInMore
import Derived.LoopNIn
import Derived.LoopIn
import Derived.Test.YtigliglmejkakabQbb
namespace Go.Proofs.Ytigliglmejkakab
open Go.RowKit Go.Shelf
set_option linter.unusedVariables false
set_option linter.unusedSimpArgs false
attribute [local go_sem] Oper.semAt_some

abbrev bkEnc (x : Nat × Int) : Array Value := #[.int .i64 (x.1 : Nat), .int .i64 x.2]
/-- The places below one, from the last on, with their numbers. -/
def restL (l : List Int) : Nat → List (Nat × Int)
  | 0 => []
  | j + 1 => (j, l.getD j 0) :: restL l j
theorem restL_len (l : List Int) : ∀ j, (restL l j).length = j
  | 0 => rfl
  | j + 1 => by rw [restL, List.length_cons, restL_len l j]
set_option maxHeartbeats 400000 in
theorem backward_in (n : Nat) (a : Option Addr) (k c : Nat) (w : World) :
    CallsIn Fence.wide n Try.prog 74 #[.slice a k c] w fun e w' => e = .returned (.func (.func 80) #[] #[.pointer (some ⟨w.heap.size, 0, none⟩)]) ∧ w' = w.alloc (.cells #[.slice a k c] 76) := by
  refine callsIn_of_wp Try.func74 rfl trivial ?_ rfl
  simp only [Try.ntmps74, List.size_toArray, List.length_cons, List.length_nil, Nat.reduceAdd, Nat.reduceSub, Array.replicate_succ, Array.replicate_zero, List.push_toArray, List.append_toArray, List.nil_append, List.cons_append]
  gi_wp2
  go_ret
  exact ⟨rfl, rfl⟩
/-- What a round must keep: the iterator's box, and the numbers. -/
def KpI (B : Nat) (v : Value) (l : List Int) (W W' : World) : Prop := (Arr W B 76 [v] ∧ Ls W Any v l) → (Arr W' B 76 [v] ∧ Ls W' Any v l)
theorem KpI.t {B : Nat} {v : Value} {l : List Int} {X Y Z : World} (h : KpI B v l X Y) (k : KpI B v l Y Z) : KpI B v l X Z := fun x => k (h x)
/-- Where a block that is no cells changes, every cell stays. -/
theorem keeps_row {W W' : World} {row : Option Nat} (hg : W.grownBy W' row) (hr : ∀ r, row = some r → ∃ o : Obj, W.heap[r]? = some o ∧ o.isCells = false) : (∀ (b o : Nat) v, W.cell? ⟨b, o, none⟩ = some v → W'.cell? ⟨b, o, none⟩ = some v) ∧ ∀ (b : Nat) T cur, Arr W b T cur → Arr W' b T cur := by
  refine ⟨fun b o v hv => ?_, fun b T cur h => ?_⟩
  · have hb : b < W.heap.size := World.block_lt_of_cell? _ _ hv
    refine (World.cell?_of_block (w := W) (hg.block b hb (fun e => ?_))).trans hv
    obtain ⟨ob, h1, h2⟩ := hr b e.symm
    rw [World.cell?] at hv
    simp only [h1] at hv
    cases ob <;> first | (simp at hv; done) | (cases h2; done)
  · refine h.grown hg (fun e => ?_)
    obtain ⟨ob, h1, h2⟩ := hr b e.symm
    rw [h.b] at h1
    injection h1 with h1
    subst h1
    cases h2
theorem KpI.b {B : Nat} {v : Value} {l : List Int} {w : World} (W : World) (k : Nat) (o o' : Obj) (_ : w.heap.size ≤ k) (h : W.heap[k]? = some o) (hc : o.isCells = false) (_ : o.isWalk = false) : KpI B v l W (W.putObj k o') := fun x => by
  have := keeps_row (grownBy_putObj' W k o') (fun r e => by cases e; exact ⟨o, h, hc⟩)
  exact ⟨this.2 _ _ _ x.1, x.2.move (fun b o v _ hv => this.1 b o v hv) fun _ h => h⟩

set_option maxRecDepth 100000 in
set_option maxHeartbeats 1000000 in
theorem backward1_in (n : Nat) (hn : 1 ≤ n) (y B : Nat) (v : Value) (l : List Int) (hl : l.length ≤ 1048576) (J Jx : List (Nat × Int) → World → Prop)
    (hY : ∀ pre x W, x.2 ∈ l → J pre W → pre.length < l.length → YieldAt Fence.wide (n - 1) Try.prog y (bkEnc x) W fun e W' =>
      (e = .returned (.bool true) ∧ J (pre ++ [x]) W' ∧ KpI B v l W W') ∨ (e = .returned (.bool false) ∧ Jx (pre ++ [x]) W'))
    (W : World) (hB : Arr W B 76 [v] ∧ Ls W Any v l) (h0 : J [] W) :
    CallsIn Fence.wide n Try.prog 80 #[.func (.yield y) #[] #[], .pointer (some ⟨B, 0, none⟩)] W fun e W' => (∃ v, e = .returned v) ∧
      ((∃ ys : List (Nat × Int), ys = restL l l.length ∧ J ys W') ∨ (∃ pre : List (Nat × Int), True ∧ Jx pre W')) := by
  obtain ⟨a, c, rfl, hm⟩ := hB.2.form
  have c0 := hB.1.cell 0
  simp only [List.getElem?_cons_zero] at c0
  have hws : IntKind.i64.wrap ((l.length : Int) - 1) = (l.length : Int) - 1 := by rw [IntKind.wrap_i64]; omega
  refine callsIn_of_wp Try.func80 rfl trivial ?_ rfl
  simp only [Try.ntmps80, List.size_toArray, List.length_cons, List.length_nil, Nat.reduceAdd, Nat.reduceSub, Array.replicate_succ, Array.replicate_zero, List.push_toArray, List.append_toArray, List.nil_append, List.cons_append]
  gi_wp2
  gi_loopw [3] (fun p wr => ∃ (j : Nat) (pre : List (Nat × Int)), p = .int .i64 ((j : Int) - 1) ∧ j ≤ l.length ∧ Hid (pre ++ restL l j = restL l l.length) ∧ Hid (J pre wr) ∧ Hid (Arr wr B 76 [.slice a l.length c] ∧ Ls wr Any (.slice a l.length c) l))
    (fun p _ => (intOf p + 1).toNat)
  case atStart => exact ⟨l.length, [], by first | rfl | (rw [hws]), Nat.le_refl _, rfl, h0, hB⟩
  case round =>
    obtain ⟨j, pre, rfl, hj, hx, hJs, hbx⟩ := hrel
    have d0 := hbx.out.1.cell 0
    simp only [List.getElem?_cons_zero] at d0
    by_cases h0' : 0 < j
    · obtain ⟨i, rfl⟩ : ∃ i, j = i + 1 := ⟨j - 1, by omega⟩
      have hji : ((i + 1 : Nat) : Int) - 1 = (i : Int) := by omega
      rw [hji]
      obtain ⟨x, hxi⟩ : ∃ x, l[i]? = some x := ⟨_, List.getElem?_eq_getElem (by omega)⟩
      obtain ⟨b, o, c', hv, -, -, -, hlc⟩ := hbx.out.2.resolve_right (fun h => by rw [h.1] at hj; exact absurd hj (by simp))
      injection hv with e1 e2 e3
      subst e1
      have hc := hlc i x hxi
      have hgd : l.getD i 0 = x := by rw [List.getD_eq_getElem?_getD, hxi]; rfl
      have HX : Hid ((pre ++ [(i, x)]) ++ restL l i = restL l l.length) := by show _ = _; rw [← hx.out, restL, hgd, List.append_assoc]; rfl
      have hpl : pre.length < l.length := by have := congrArg List.length hx.out; rw [List.length_append, restL_len, restL_len] at this; omega
      obtain ⟨fn, tmps, assign, body, hy, hR⟩ := hY pre (i, x) wr (List.mem_of_getElem? hxi) hJs.out hpl
      have hws2 : IntKind.i64.wrap ((i : Int) - 1) = (i : Int) - 1 := by rw [IntKind.wrap_i64]; omega
      have hlt : i < l.length := by omega
      dsimp only [bkEnc] at hy
      clear hlc e2 e3 hxi hgd hx hY
      gi_wp2
      refine hR.mono ?_
      rintro e W3 (⟨rfl, hJ3, hk3⟩ | ⟨rfl, hJx3⟩)
      · have hb3 := hk3 hbx.out
        gi_wp2
        go_roundw
        case rel => exact ⟨i, _, by first | rfl | (rw [hws2]), by omega, HX, hJ3, hb3⟩
        case measure => simp [intOf] <;> omega
      · gi_wp2
        first | refine bodyPost_ret (results_none rfl _ _ _) rfl ?_ | refine bodyPost_end (results_none rfl _ _ _) rfl ?_
        exact ⟨⟨_, rfl⟩, .inr ⟨_, trivial, hJx3⟩⟩
    · obtain rfl : j = 0 := by omega
      gi_wp2
      first | refine bodyPost_ret (results_none rfl _ _ _) rfl ?_ | refine bodyPost_end (results_none rfl _ _ _) rfl ?_
      exact ⟨⟨_, rfl⟩, .inl ⟨_, by have := hx.out; rw [restL, List.append_nil] at this; exact this, hJs.out⟩⟩
theorem backward_stops (n : Nat) (hn : 1 ≤ n) (B : Nat) (v : Value) (l : List Int) (hl : l.length ≤ 1048576) (h64 : ∀ x ∈ l, Tgt.R64 x) (w : World) (hc : Arr w B 76 [v] ∧ Ls w Any v l) :
    SeqStopsK (α := {p : Nat × Int // Tgt.R64 p.2}) Fence.wide n Try.prog 80 #[.pointer (some ⟨B, 0, none⟩)] (fun x => bkEnc x.1) (KpI B v l) (fun ys => ys.map (·.1) = restL l l.length) (fun pre => True) l.length w := fun y J Jx W hW _ _ hY h0 => by
  refine (backward1_in n hn y B v l hl (fun pre W => ∃ p', p'.map (·.1) = pre ∧ J p' W) (fun pre W => ∃ p', p'.map (·.1) = pre ∧ Jx p' W) ?_ W ⟨hc.1.stays hW, hc.2.below hW⟩ ⟨[], rfl, h0⟩).mono ?_
  · rintro pre x W1 hx ⟨p', rfl, hJ⟩ hlt
    refine (hY p' ⟨x, h64 _ hx⟩ W1 hJ (by simpa using hlt)).mono ?_
    rintro e W' (⟨rfl, h1, h2⟩ | ⟨rfl, h1⟩)
    · exact .inl ⟨rfl, ⟨_, by simp, h1⟩, h2⟩
    · exact .inr ⟨rfl, ⟨_, by simp, h1⟩⟩
  · rintro e W' ⟨hv, h⟩
    refine ⟨hv, ?_⟩
    rcases h with ⟨ys, rfl, p', hp, hJ⟩ | ⟨pre, -, p', -, hJ⟩
    · exact .inl ⟨p', hp, hJ⟩
    · exact .inr ⟨p', trivial, hJ⟩
end Go.Proofs.Ytigliglmejkakab

namespace Go.Proofs.Ytigliglmejkakab
open Go.RowKit Go.Shelf
set_option linter.unusedVariables false
set_option linter.unusedSimpArgs false
attribute [local go_sem] Oper.semAt_some

/-- What stands in bound's boxes. -/
def BnI (w : World) (KQ : Nat → Prop) (kind : Int) (y : Tgt.Tt) (pre : List {p : Nat × Int // Tgt.R64 p.2}) (W : World) : Prop :=
  ∃ (z : Tgt.Tt) (N : Nat) (az' az : Option Addr) (cz' cz : Nat), z = Tt.around kind ((pre.map (·.1.2)).reverse) y ∧ Arr W w.heap.size 3 [.int .i64 kind] ∧ Arr W (w.heap.size + 1) 32 [.int .i64 z.k, .int .i64 z.n, .slice az' z.ls.length cz', .slice az z.ks.length cz] ∧ Arr W (w.heap.size + 1 + 1) 32 [.int .i64 0, .int .i64 0, .slice none 0 0, .slice none 0 0] ∧ Tgt.TAt W (fun b => (KQ b ∧ b < w.heap.size) ∨ w.heap.size + 3 ≤ b) N [.int .i64 z.k, .int .i64 z.n, .slice az' z.ls.length cz', .slice az z.ks.length cz] z ∧ Below w.heap.size w W
theorem BnI.own (w : World) (KQ : Nat → Prop) (kind : Int) (y : Tgt.Tt) {B : Nat} (hB : w.heap.size ≤ B) : OwnFrom B (BnI w KQ kind y) := fun pre W W' row h hg hr => by
  obtain ⟨z, N, az', az, cz', cz, h1, h2, h3, h4, h5, h6⟩ := h
  have hk := keeps_row hg (fun r e => (hr r e).2)
  exact ⟨z, N, az', az, cz', cz, h1, hk.2 _ _ _ h2, hk.2 _ _ _ h3, hk.2 _ _ _ h4, h5.move (fun b o v _ hv => hk.1 b o v hv) (fun b hb => hb), h6.grown hg (by have := h2.lt; omega) (fun b e => by have := (hr b e).1; omega)⟩
theorem restL_rev (l : List Int) : ∀ j, j ≤ l.length → ((restL l j).map (·.2)).reverse = l.take j
  | 0, _ => rfl
  | j + 1, hj => by
    obtain ⟨x, hx⟩ : ∃ x, l[j]? = some x := ⟨_, List.getElem?_eq_getElem (by omega)⟩
    rw [restL, List.map_cons, List.reverse_cons, restL_rev l j (by omega), List.take_add_one, hx, List.getD_eq_getElem?_getD, hx]
    rfl
theorem ko_below {W W' : World} (h : Below W.heap.size W W') : KeepsOthers W W' := ⟨h.size, fun k o hk _ => by
  have hlt : k < W.heap.size := by
    rcases Nat.lt_or_ge k W.heap.size with h' | h'
    · exact h'
    · simp [Array.getElem?_eq_none h'] at hk
  exact (h.block k hlt).trans hk⟩

/-- The end: the result lies in its box; the rounds deferred nothing. -/
theorem bound_end {n D B : Nat} {V : World} {u0 u1 u2 u3 : Value} {t0 t1 t2 t3 t4 t5 t7 t8 t9 t10 t11 t12 t13 t14 t15 t16 t17 : Value} {R : Ending → World → Prop}
    (hK : V.heap[D]? = some (.deferred (some []))) (b : Arr V B 32 [u0, u1, u2, u3]) (hR : R (.returned (.agg #[u0, u1, u2, u3])) (V.putObj D (.deferred none))) :
    bodyPostM Fence.wide n Try.prog Try.f60 R .ret { tmps := #[t0, t1, t2, t3, t4, t5, .pointer (some ⟨B, 0, none⟩), t7, t8, t9, t10, t11, t12, t13, t14, t15, t16, t17], defers := [{ target := .collected D, args := #[] }] } V := by
  have b' : Arr (V.putObj D (.deferred none)) B 32 [u0, u1, u2, u3] := (keeps_row (grownBy_putObj' V D (.deferred none)) (fun r e => by cases e; exact ⟨_, hK, rfl⟩)).2 _ _ _ b
  have c := b'.cell
  have f := b'.frozen
  refine ⟨by simp, .inl ⟨_, _, rfl, run_takeDeferred hK, ?_⟩⟩
  refine ⟨.agg #[u0, u1, u2, u3], ?_, hR⟩
  simp [results, Try.f60, go_sem, c, f]

set_option maxRecDepth 100000 in
set_option maxHeartbeats 2000000 in
theorem bound_in (m : Nat) (hm : 3 ≤ m) (w : World) (KQ : Nat → Prop) (kind : Int) (hkind : Tgt.R64 kind) (la : Option Addr) (lc : Nat) (l : List Int) (hl : Ls w Any (.slice la l.length lc) l) (h64 : ∀ x ∈ l, Tgt.R64 x) (hln : l.length ≤ 1048576) (n : Nat) (y : Tgt.Tt) (a' a : Option Addr) (c' c : Nat) (hT : Tgt.TAt w KQ n [.int .i64 y.k, .int .i64 y.n, .slice a' y.ls.length c', .slice a y.ks.length c] y) :
    CallsIn Fence.wide m Try.prog 60 #[.int .i64 kind, .slice la l.length lc, .agg #[.int .i64 y.k, .int .i64 y.n, .slice a' y.ls.length c', .slice a y.ks.length c]] w fun e W' => (∃ p' q' p q N, e = .returned (.agg #[.int .i64 (Tt.around kind l y).k, .int .i64 (Tt.around kind l y).n, .slice p' (Tt.around kind l y).ls.length q', .slice p (Tt.around kind l y).ks.length q]) ∧ Tgt.TAt W' (fun b => (KQ b ∧ b < w.heap.size) ∨ w.heap.size + 3 ≤ b) N [.int .i64 (Tt.around kind l y).k, .int .i64 (Tt.around kind l y).n, .slice p' (Tt.around kind l y).ls.length q', .slice p (Tt.around kind l y).ks.length q] (Tt.around kind l y)) ∧ Below w.heap.size w W' := by
  have h1 : 1 ≤ m := by omega
  refine callsIn_of_wp_marks Try.func60 rfl trivial ?_ rfl
  simp only [Try.ntmps60, List.size_toArray, List.length_cons, List.length_nil, Nat.reduceAdd, Nat.reduceSub, Array.replicate_succ, Array.replicate_zero, List.push_toArray, List.append_toArray, List.nil_append, List.cons_append]
  gi_wp2_with (refine ⟨trivial, ?_⟩; gi_at_call 74; refine (backward_in _ _ _ _ _).mono ?_; rintro e w' ⟨rfl, rfl⟩)
  have hB4 : Below w.heap.size w ((((w.alloc (.cells #[.int .i64 kind] 3)).alloc (.cells #[.int .i64 y.k, .int .i64 y.n, .slice a' y.ls.length c', .slice a y.ks.length c] 32)).alloc (.cells #[.int .i64 0, .int .i64 0, .slice none 0 0, .slice none 0 0] 32)).alloc (.cells #[.slice la l.length lc] 76)) := bl_alloc (bl_alloc (bl_alloc (bl_alloc (Below.refl _ _) _) _) _) _
  have b0 : Arr ((((w.alloc (.cells #[.int .i64 kind] 3)).alloc (.cells #[.int .i64 y.k, .int .i64 y.n, .slice a' y.ls.length c', .slice a y.ks.length c] 32)).alloc (.cells #[.int .i64 0, .int .i64 0, .slice none 0 0, .slice none 0 0] 32)).alloc (.cells #[.slice la l.length lc] 76)) w.heap.size 3 [.int .i64 kind] := Arr.stays (w := w.alloc (.cells #[.int .i64 kind] 3)) ⟨heap_alloc_at _ _⟩ (bl_alloc (bl_alloc (bl_alloc (Below.refl _ _) _) _) _)
  have b1 : Arr ((((w.alloc (.cells #[.int .i64 kind] 3)).alloc (.cells #[.int .i64 y.k, .int .i64 y.n, .slice a' y.ls.length c', .slice a y.ks.length c] 32)).alloc (.cells #[.int .i64 0, .int .i64 0, .slice none 0 0, .slice none 0 0] 32)).alloc (.cells #[.slice la l.length lc] 76)) (w.heap.size + 1) 32 [.int .i64 y.k, .int .i64 y.n, .slice a' y.ls.length c', .slice a y.ks.length c] := Arr.stays (w := (w.alloc (.cells #[.int .i64 kind] 3)).alloc (.cells #[.int .i64 y.k, .int .i64 y.n, .slice a' y.ls.length c', .slice a y.ks.length c] 32)) ⟨by have := heap_alloc_at (w.alloc (.cells #[.int .i64 kind] 3)) (.cells #[.int .i64 y.k, .int .i64 y.n, .slice a' y.ls.length c', .slice a y.ks.length c] 32); rw [size_alloc] at this; exact this⟩ (bl_alloc (bl_alloc (Below.refl _ _) _) _)
  have b2 : Arr ((((w.alloc (.cells #[.int .i64 kind] 3)).alloc (.cells #[.int .i64 y.k, .int .i64 y.n, .slice a' y.ls.length c', .slice a y.ks.length c] 32)).alloc (.cells #[.int .i64 0, .int .i64 0, .slice none 0 0, .slice none 0 0] 32)).alloc (.cells #[.slice la l.length lc] 76)) (w.heap.size + 1 + 1) 32 [.int .i64 0, .int .i64 0, .slice none 0 0, .slice none 0 0] := Arr.stays (w := ((w.alloc (.cells #[.int .i64 kind] 3)).alloc (.cells #[.int .i64 y.k, .int .i64 y.n, .slice a' y.ls.length c', .slice a y.ks.length c] 32)).alloc (.cells #[.int .i64 0, .int .i64 0, .slice none 0 0, .slice none 0 0] 32)) ⟨by have := heap_alloc_at ((w.alloc (.cells #[.int .i64 kind] 3)).alloc (.cells #[.int .i64 y.k, .int .i64 y.n, .slice a' y.ls.length c', .slice a y.ks.length c] 32)) (.cells #[.int .i64 0, .int .i64 0, .slice none 0 0, .slice none 0 0] 32); rw [size_alloc, size_alloc] at this; exact this⟩ (bl_alloc (Below.refl _ _) _)
  have b3 : Arr ((((w.alloc (.cells #[.int .i64 kind] 3)).alloc (.cells #[.int .i64 y.k, .int .i64 y.n, .slice a' y.ls.length c', .slice a y.ks.length c] 32)).alloc (.cells #[.int .i64 0, .int .i64 0, .slice none 0 0, .slice none 0 0] 32)).alloc (.cells #[.slice la l.length lc] 76)) (w.heap.size + 1 + 1 + 1) 76 [.slice la l.length lc] := ⟨by have := heap_alloc_at (((w.alloc (.cells #[.int .i64 kind] 3)).alloc (.cells #[.int .i64 y.k, .int .i64 y.n, .slice a' y.ls.length c', .slice a y.ks.length c] 32)).alloc (.cells #[.int .i64 0, .int .i64 0, .slice none 0 0, .slice none 0 0] 32)) (.cells #[.slice la l.length lc] 76); rw [size_alloc, size_alloc, size_alloc] at this; exact this⟩
  have hsz : ((((w.alloc (.cells #[.int .i64 kind] 3)).alloc (.cells #[.int .i64 y.k, .int .i64 y.n, .slice a' y.ls.length c', .slice a y.ks.length c] 32)).alloc (.cells #[.int .i64 0, .int .i64 0, .slice none 0 0, .slice none 0 0] 32)).alloc (.cells #[.slice la l.length lc] 76)).heap.size = w.heap.size + 4 := by simp
  have hI0 : BnI w KQ kind y [] ((((w.alloc (.cells #[.int .i64 kind] 3)).alloc (.cells #[.int .i64 y.k, .int .i64 y.n, .slice a' y.ls.length c', .slice a y.ks.length c] 32)).alloc (.cells #[.int .i64 0, .int .i64 0, .slice none 0 0, .slice none 0 0] 32)).alloc (.cells #[.slice la l.length lc] 76)) := ⟨y, n, a', a, c', c, rfl, b0, b1, b2, (hT.old.below hB4).move (Tgt.Keeps.refl _ _) (fun b hb => .inl hb), hB4⟩
  have hL4 := hl.below hB4
  obtain ⟨W0, hW0⟩ : ∃ W0, ((((w.alloc (.cells #[.int .i64 kind] 3)).alloc (.cells #[.int .i64 y.k, .int .i64 y.n, .slice a' y.ls.length c', .slice a y.ks.length c] 32)).alloc (.cells #[.int .i64 0, .int .i64 0, .slice none 0 0, .slice none 0 0] 32)).alloc (.cells #[.slice la l.length lc] 76)) = W0 := ⟨_, rfl⟩
  rw [hW0] at hI0 b3 hsz hB4 hL4
  rw [hW0]
  clear hW0 b0 b1 b2 hT
  refine wpIn_rangeFunc_ownH rfl h1 (gf := 80) (lb := #[.pointer (some ⟨w.heap.size + 1 + 1 + 1, 0, none⟩)]) rfl trivial (enters_of Try.func80 (by kernel_rfl) rfl)
    (backward_stops (m - 1) (by omega) (w.heap.size + 1 + 1 + 1) _ l hln h64 W0 ⟨b3, hL4⟩) KpI.t (KpI.b (w := W0)) (Below.refl _ _) (fun _ => rfl)
    (BnI w KQ kind y) (fun _ _ _ => False) (BnI.own w KQ kind y (by omega)) (fun c s W W' row h _ _ => h) hI0
    (fun x A W => A = { tmps := #[.int .i64 kind, .slice la l.length lc, .agg #[.int .i64 y.k, .int .i64 y.n, .slice a' y.ls.length c', .slice a y.ks.length c], .pointer (some ⟨w.heap.size, 0, none⟩), undef, .pointer (some ⟨w.heap.size + 1, 0, none⟩), .pointer (some ⟨w.heap.size + 1 + 1, 0, none⟩), undef, .int .i64 x.1.2, .slice la l.length lc, .func (.func 80) #[] #[.pointer (some ⟨w.heap.size + 1 + 1 + 1, 0, none⟩)], .int .i64 (x.1.1 : Nat), .int .i64 x.1.2, undef, undef, undef, undef, undef], defers := [] }) (fun x A _ X Y row hs hg hr => hs)
    ?assign ?body ?done ?stop
  case assign =>
    rintro L pre x W K hI hK
    gi_wp2
    exact hK _ _ (KeepsFrom.refl _ _) (fun h => h) hI rfl
  case body =>
    rintro L pre x A W hLs ⟨r, hr⟩ ⟨z, N, az', az, cz', cz, hz, b0, b1, b2, hT, hB⟩ rfl hlt
    have HZ := hid hz
    clear hz
    have c0 := b0.cell 0
    have c1 := b1.cell
    have f1 := b1.frozen
    have hsW := b2.lt
    have HBi := (binder_any W (fun b => (KQ b ∧ b < w.heap.size) ∨ w.heap.size + 3 ≤ b) N kind x.1.2 z az' az cz' cz hkind x.2 hT (fun b hb => .inr (by omega)))
    simp only [List.getElem?_cons_zero] at c0
    gi_wp2
    refine ⟨trivial, fun h => by simp [Fence.wide] at h, CallsIn.inRound L ((callsIn_wide.2 HBi).mono ?_)⟩
    rintro e W3 ⟨a3, c3, rfl, hT3, b3'⟩
    have e1 := (b1.stays b3').cell
    have e2 := (b1.stays b3').frozen
    have HT3 := hid hT3
    have HB3 := hid b3'
    have B1 := hid b1
    have B0 := hid b0
    have B2 := hid b2
    clear hT3 b3' HBi hT b1 b0 b2
    gi_wp2
    have hK : ∀ (W : World) i u, Tgt.Keeps (fun b => (KQ b ∧ b < w.heap.size) ∨ w.heap.size + 3 ≤ b) W (W.setCell ⟨w.heap.size + 1, i, none⟩ u) := fun W i u b o v hb hv => by have hb : (KQ b ∧ b < w.heap.size) ∨ w.heap.size + 3 ≤ b := hb; rw [World.cell?_of_block (w := W) (Below.heap_setCell _ _ _ _ (by show b ≠ w.heap.size + 1; omega))]; exact hv
    have hs : ∀ (W : World) i u, Below w.heap.size w W → Below w.heap.size w (W.setCell ⟨w.heap.size + 1, i, none⟩ u) := fun W i u h => bl_set _ _ h (by show _ ≤ w.heap.size + 1; omega)
    have ho1 : ∀ (W : World) i u bb T cur, bb ≠ w.heap.size + 1 → Arr W bb T cur → Arr (W.setCell ⟨w.heap.size + 1, i, none⟩ u) bb T cur := fun W i u bb T cur hne h => h.other (p := ⟨w.heap.size + 1, i, none⟩) hne u
    have hB' := hs _ 3 (.slice a3 1 c3) (hs _ 2 (.slice none 0 0) (hs _ 1 (.int .i64 x.1.2) (hs _ 0 (.int .i64 kind) (bl_tr hB HB3.out))))
    refine ⟨(((((ko_below HB3.out).trans (KeepsOthers.setCell _ _ _)).trans (KeepsOthers.setCell _ _ _)).trans (KeepsOthers.setCell _ _ _)).trans (KeepsOthers.setCell _ _ _)).from _, fun h => ⟨ho1 _ _ _ _ _ _ (by omega) (ho1 _ _ _ _ _ _ (by omega) (ho1 _ _ _ _ _ _ (by omega) (ho1 _ _ _ _ _ _ (by omega) (h.1.stays HB3.out)))), hl.below hB'⟩, ?_⟩
    exact ⟨.mk kind x.1.2 [] [z], N + 1, none, a3, 0, c3, by rw [HZ.out]; simp [Tt.around], ho1 _ _ _ _ _ _ (by omega) (ho1 _ _ _ _ _ _ (by omega) (ho1 _ _ _ _ _ _ (by omega) (ho1 _ _ _ _ _ _ (by omega) (B0.out.stays HB3.out)))),
      ((((B1.out.stays HB3.out).set 0 _).set 1 _).set 2 _).set 3 _, ho1 _ _ _ _ _ _ (by omega) (ho1 _ _ _ _ _ _ (by omega) (ho1 _ _ _ _ _ _ (by omega) (ho1 _ _ _ _ _ _ (by omega) (B2.out.stays HB3.out)))),
      HT3.out.move (((hK _ _ _).trans (hK _ _ _)).trans ((hK _ _ _).trans (hK _ _ _))) (fun b hb => hb), hB'⟩
  case done =>
    rintro D ys W hD hys ⟨z, N, az', az, cz', cz, hz, b0, b1, b2, hT, hB⟩ hK
    have hzl : z = Tt.around kind l y := by
      rw [hz]
      have e := congrArg (fun q => (q.map (·.2)).reverse) hys
      simp only [List.map_map] at e
      rw [restL_rev l l.length (Nat.le_refl _), List.take_length] at e
      rw [← e]; rfl
    have HZ := hid hzl
    have hne : D ≠ w.heap.size + 1 + 1 := by omega
    have HK0 := hid hK
    have HT := hid hT
    have HB := hid hB
    have B2 := hid b2
    have c1 := b1.cell
    have c2 := b2.cell
    have f2 := b2.frozen
    clear hz hzl hT hB b0 b1 b2 hys hK
    gi_wp2
    have hs : ∀ (W : World) i u, Below w.heap.size w W → Below w.heap.size w (W.setCell ⟨w.heap.size + 1 + 1, i, none⟩ u) := fun W i u h => bl_set _ _ h (by show _ ≤ w.heap.size + 1 + 1; omega)
    have hKk : ∀ (W : World) i u, Tgt.Keeps (fun b => (KQ b ∧ b < w.heap.size) ∨ w.heap.size + 3 ≤ b) W (W.setCell ⟨w.heap.size + 1 + 1, i, none⟩ u) := fun W i u b o v hb hv => by have hb : (KQ b ∧ b < w.heap.size) ∨ w.heap.size + 3 ≤ b := hb; rw [World.cell?_of_block (w := W) (Below.heap_setCell _ _ _ _ (by show b ≠ w.heap.size + 1 + 1; omega))]; exact hv
    have hD1 : ∀ (W : World) i u o, W.heap[D]? = some o → (W.setCell ⟨w.heap.size + 1 + 1, i, none⟩ u).heap[D]? = some o := fun W i u o h => (Below.heap_setCell _ _ _ _ (by show D ≠ w.heap.size + 1 + 1; omega)).trans h
    refine bound_end (hD1 _ _ _ _ (hD1 _ _ _ _ (hD1 _ _ _ _ (hD1 _ _ _ _ HK0.out)))) ((((B2.out.set 0 _).set 1 _).set 2 _).set 3 _) ?_
    have hk := keeps_row (grownBy_putObj' _ D (.deferred none)) (fun r e => by cases e; exact ⟨_, hD1 _ 3 (.slice az z.ks.length cz) _ (hD1 _ 2 (.slice az' z.ls.length cz') _ (hD1 _ 1 (.int .i64 z.n) _ (hD1 _ 0 (.int .i64 z.k) _ HK0.out))), rfl⟩)
    have hT' := (HT.out.move (((hKk _ 0 (.int .i64 z.k)).trans (hKk _ 1 (.int .i64 z.n))).trans ((hKk _ 2 (.slice az' z.ls.length cz')).trans (hKk _ 3 (.slice az z.ks.length cz)))) (fun b hb => hb)).move (fun b o v _ hv => hk.1 b o v hv) (fun b hb => hb)
    have hB' := hs _ 3 (.slice az z.ks.length cz) (hs _ 2 (.slice az' z.ls.length cz') (hs _ 1 (.int .i64 z.n) (hs _ 0 (.int .i64 z.k) HB.out)))
    rw [← HZ.out]
    exact ⟨⟨_, _, _, _, _, rfl, hT'⟩, hB'.trans (belowK_b (w := w) (Nat.le_refl _) _ D _ _ (by omega) (hD1 _ _ _ _ (hD1 _ _ _ _ (hD1 _ _ _ _ (hD1 _ _ _ _ HK0.out)))) rfl rfl)⟩
  case stop =>
    rintro D c pre W hD hpre h hK
    exact h.elim
theorem bound_all (w : World) (KQ : Nat → Prop) (kind : Int) (hkind : Tgt.R64 kind) (la : Option Addr) (lc : Nat) (l : List Int) (hl : Ls w Any (.slice la l.length lc) l) (h64 : ∀ x ∈ l, Tgt.R64 x) (hln : l.length ≤ 1048576) (n : Nat) (y : Tgt.Tt) (a' a : Option Addr) (c' c : Nat) (hT : Tgt.TAt w KQ n [.int .i64 y.k, .int .i64 y.n, .slice a' y.ls.length c', .slice a y.ks.length c] y) :
    Calls Try.prog 60 #[.int .i64 kind, .slice la l.length lc, .agg #[.int .i64 y.k, .int .i64 y.n, .slice a' y.ls.length c', .slice a y.ks.length c]] w fun e W' => (∃ p' q' p q N, e = .returned (.agg #[.int .i64 (Tt.around kind l y).k, .int .i64 (Tt.around kind l y).n, .slice p' (Tt.around kind l y).ls.length q', .slice p (Tt.around kind l y).ks.length q]) ∧ Tgt.TAt W' (fun b => (KQ b ∧ b < w.heap.size) ∨ w.heap.size + 3 ≤ b) N [.int .i64 (Tt.around kind l y).k, .int .i64 (Tt.around kind l y).n, .slice p' (Tt.around kind l y).ls.length q', .slice p (Tt.around kind l y).ks.length q] (Tt.around kind l y)) ∧ Below w.heap.size w W' :=
  callsIn_wide.1 (bound_in 3 (by omega) w KQ kind hkind la lc l hl h64 hln n y a' a c' c hT)
end Go.Proofs.Ytigliglmejkakab
