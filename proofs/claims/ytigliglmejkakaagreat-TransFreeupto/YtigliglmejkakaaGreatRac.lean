/- The meter; Size, Fits. by: what is put in for a node. renewed: a node with what is made of each of its parts, in new memory. An append: the row is the old one, or a new one. The document's own: place, In, counted, Size, Fits, grown. -/
import Derived.BigQuiet
import Derived.Laws.ResultCell
import Derived.Laws.AppendOwn
import Derived.Laws.AppendOwnNone
import Derived.Lib.SliceRun
import Derived.Test.YtigliglmejkakaaGreatRaa
import Derived.Test.YtigliglmejkakaaGreatRab
namespace Go.Proofs.YtigliglmejkakaaGreat
open Go.RowKit
set_option linter.unusedVariables false

/-- A number in the first cell of a block that may be written; the rest of the block is cs. -/
structure Mtr (M : Nat) (cs : List Value) (T : TypeId) (s : Int) (w : World) : Prop where
  block : w.heap[M]? = some (.cells (.int .i64 s :: cs).toArray T (0, 0))
theorem Mtr.lt {M : Nat} {cs : List Value} {T : TypeId} {s : Int} {w : World} (h : Mtr M cs T s w) : M < w.heap.size := by
  rcases Nat.lt_or_ge M w.heap.size with h' | h'
  · exact h'
  · have := h.block; simp [Array.getElem?_eq_none h'] at this
theorem Mtr.cell {M : Nat} {cs : List Value} {T : TypeId} {s : Int} {w : World} (h : Mtr M cs T s w) : w.cell? ⟨M, 0, none⟩ = some (.int .i64 s) := by
  simp [World.cell?, h.block]
theorem Mtr.frozen {M : Nat} {cs : List Value} {T : TypeId} {s : Int} {w : World} (h : Mtr M cs T s w) : w.frozen? ⟨M, 0, none⟩ = false := by
  simp [World.frozen?, h.block]
theorem Mtr.rest {M : Nat} {cs : List Value} {T : TypeId} {s : Int} {w : World} (h : Mtr M cs T s w) (j : Nat) (v : Value) (hv : cs[j]? = some v) : w.cell? ⟨M, j + 1, none⟩ = some v := by
  simp [World.cell?, h.block, hv]
theorem Mtr.stays {M : Nat} {cs : List Value} {T : TypeId} {s : Int} {w w' : World} (h : Mtr M cs T s w) (hb : Below w.heap.size w w') : Mtr M cs T s w' := ⟨by rw [hb.block M h.lt]; exact h.block⟩
theorem Mtr.set {M : Nat} {cs : List Value} {T : TypeId} {s : Int} {w : World} (h : Mtr M cs T s w) (s' : Int) : Mtr M cs T s' (w.setCell ⟨M, 0, none⟩ (.int .i64 s')) := by
  constructor
  simp [World.setCell, Array.getElem?_modify, h.block]
theorem Ev.set {own o1 : Nat → Prop} {w w1 : World} (h : Ev own w o1 w1) {p : Addr} (hp : o1 p.block) (u : Value) : Ev own w o1 (w1.setCell p u) :=
  h.trans ⟨rfl, rfl, rfl, by simp [World.setCell], fun _ h => .inl h, fun b hb hn => Below.heap_setCell _ _ _ _ (fun e => hn (e ▸ hp))⟩
/-- The meter in block M, nothing else is written. -/
def ICount (M : Nat) (cs : List Value) (T : TypeId) (s : Int) (own : Nat → Prop) (w : World) : Prop := Mtr M cs T s w ∧ own = (fun b => b = M)
theorem ICount.steady (M : Nat) (cs : List Value) (T : TypeId) : Steady (ICount M cs T) := ⟨fun s own w w' h hb => ⟨h.1.stays hb, h.2⟩, fun s own w b h ho => by rw [h.2] at ho; rw [ho]; exact h.1.lt⟩

set_option maxHeartbeats 1000000 in
set_option maxRecDepth 100000 in
theorem count_any (M : Nat) (cs : List Value) (T : TypeId) (s : Int) (w : World) (v0 v1 v2 : Value) (h : Mtr M cs T s w) : Calls Tryz.prog 65 #[.pointer (some ⟨M, 0, none⟩), .agg #[v0, v1, v2]] w fun e w' => e = .returned (.tuple #[.bool true, .bool (decide (wrap64 (s + 1) ≤ 1000))]) ∧ Mtr M cs T (wrap64 (s + 1)) w' ∧ Ev (fun b => b = M) w (fun b => b = M) w' := by
  have hw1 : ∀ o, Mtr M cs T s (w.alloc o) := fun o => h.stays (bl_alloc (Below.refl _ _) o)
  have c0 : ∀ o, (w.alloc o).cell? ⟨M, 0, none⟩ = some (.int .i64 s) := fun o => (hw1 o).cell
  have f0 : ∀ o, (w.alloc o).frozen? ⟨M, 0, none⟩ = false := fun o => (hw1 o).frozen
  have HW : Hid (∀ o, Mtr M cs T s (w.alloc o)) := hw1
  clear hw1 h
  go_enter Tryz.func65, Tryz.ntmps65
  go_wp2
  go_quiet (fail)
  go_wp2
  go_ret2
  refine ⟨rfl, ?_, ?_⟩
  · exact ((HW.out _).set (wrap64 (s + 1))).stays (bl_drewN _ _)
  · exact Ev.trans (o1 := fun b => b = M) (Ev.set (o1 := fun b => b = M) (p := ⟨M, 0, none⟩) (Ev.alloc (Ev.refl _ _) _) rfl _) (Ev.of_below (bl_drewN _ _))
theorem count_see (M : Nat) (cs : List Value) (T : TypeId) (o0 : Nat → Prop) (w0 : World) (n : Nat) : SeeOf 65 #[.pointer (some ⟨M, 0, none⟩)] Tp.fCount (ICount M cs T) o0 w0 n := by
  intro w own s vs t hI hE hT
  obtain ⟨a, c, rfl⟩ := hT.form
  obtain ⟨hM, rfl⟩ := hI
  refine (count_any M cs T s w _ _ _ hM).mono ?_
  rintro e w' ⟨rfl, h1, h2⟩
  exact ⟨rfl, _, ⟨h1, rfl⟩, h2⟩
theorem enters_count : Enters 65 := enters_of Tryz.func65 (by kernel_rfl) rfl
theorem walk_count0 (M : Nat) (cs : List Value) (T : TypeId) (s : Int) (w : World) (n : Nat) (vs : List Value) (t : Tp) (h : Mtr M cs T s w) (hT : TAt w (fun b => b ≠ M) n vs t) :
    Calls Tryz.prog 30 #[.agg vs.toArray, .func (.func 65) #[.pointer (some ⟨M, 0, none⟩)] #[]] w fun e w' => e = .returned (.bool (Tp.walk Tp.fCount t s).2) ∧ Mtr M cs T (Tp.walk Tp.fCount t s).1 w' ∧ Ev (fun b => b = M) w (fun b => b = M) w' := by
  have hT1 : TAt w (Free (fun b => b = M) w) n vs t := TAt.oldK hT
  refine (walk_any _ _ _ (ICount M cs T) (fun b => b = M) w (ICount.steady M cs T) enters_count (count_see M cs T _ w) n w (fun b => b = M) s vs t ⟨h, rfl⟩ (Ev.refl _ _) hT1).mono ?_
  rintro e w' ⟨rfl, own', ⟨hI, rfl⟩, hE⟩
  exact ⟨rfl, hI, hE⟩
/-- walk with a meter. -/
theorem walk_count (M : Nat) (cs : List Value) (T : TypeId) (s : Int) (w : World) (n : Nat) (vs : List Value) (t : Tp) (h : Mtr M cs T s w) (h0 : 0 ≤ s) (h1 : s ≤ 1000) (hT : TAt w (fun b => b ≠ M) n vs t) :
    Calls Tryz.prog 30 #[.agg vs.toArray, .func (.func 65) #[.pointer (some ⟨M, 0, none⟩)] #[]] w fun e w' => e = .returned (.bool (Tp.upto (s + t.cnt)).2) ∧ Mtr M cs T (Tp.upto (s + t.cnt)).1 w' ∧ Ev (fun b => b = M) w (fun b => b = M) w' := by
  have hT1 : TAt w (Free (fun b => b = M) w) n vs t := TAt.oldK hT
  refine (walk_any _ _ _ (ICount M cs T) (fun b => b = M) w (ICount.steady M cs T) enters_count (count_see M cs T _ w) n w (fun b => b = M) s vs t ⟨h, rfl⟩ (Ev.refl _ _) hT1).mono ?_
  rintro e w' ⟨rfl, own', ⟨hI, rfl⟩, hE⟩
  rw [Tp.walk_count t s h0 h1] at hI ⊢
  exact ⟨rfl, hI, hE⟩

end Go.Proofs.YtigliglmejkakaaGreat

namespace Go.Proofs.YtigliglmejkakaaGreat
open Go.RowKit
set_option linter.unusedVariables false
set_option linter.unusedSimpArgs false

/-- A replacer in block M. -/
structure Rep (M : Nat) (kind : Int) (fv tv : Value) (fr : List Int) (to : List Tp) (K : Nat → Prop) (n : Nat) (s : Int) (w : World) : Prop where
  m : Mtr M [.int .i64 kind, fv, tv] 92 s w
  f : Ls w K fv fr
  t : TAtL w K n tv to
  len : fr.length = to.length
theorem Tp.idx_lt (n : Int) : ∀ (l : List Int) (i : Nat), Tp.idx n l i < (i : Int) + l.length ∨ Tp.idx n l i = -1
  | [], i => .inr rfl
  | x :: r, i => by
    rw [Tp.idx]
    by_cases h : x = n
    · rw [if_pos h]; left; simp; omega
    · rw [if_neg h]
      rcases Tp.idx_lt n r (i + 1) with h2 | h2
      · left; simp at h2 ⊢; omega
      · exact .inr h2
theorem Tp.idx_nonneg (n : Int) : ∀ (l : List Int) (i : Nat), 0 ≤ Tp.idx n l i ∨ Tp.idx n l i = -1
  | [], i => .inr rfl
  | x :: r, i => by
    rw [Tp.idx]
    by_cases h : x = n
    · rw [if_pos h]; left; omega
    · rw [if_neg h]; exact Tp.idx_nonneg n r (i + 1)
/-- by, where the node is of another kind, or its number is none of from. -/
theorem Tp.by_none {kind : Int} {fr : List Int} {to : List Tp} {k n : Int} (hlen : fr.length = to.length) (h : Tp.by kind fr to k n = none) : k ≠ kind ∨ (k = kind ∧ Tp.idx n fr 0 = -1) := by
  unfold Tp.by at h
  by_cases hk : k = kind
  · rw [if_pos hk] at h
    refine .inr ⟨hk, ?_⟩
    rcases Tp.idx_nonneg n fr 0 with h2 | h2
    · rw [if_pos h2] at h
      rcases Tp.idx_lt n fr 0 with h3 | h3
      · rw [List.getElem?_eq_none_iff] at h; omega
      · omega
    · exact h2
  · exact .inl hk
theorem Tp.by_some {kind : Int} {fr : List Int} {to : List Tp} {k n : Int} {u : Tp} (h : Tp.by kind fr to k n = some u) : k = kind ∧ ∃ i : Nat, Tp.idx n fr 0 = (i : Int) ∧ to[i]? = some u := by
  unfold Tp.by at h
  by_cases hk : k = kind
  · rw [if_pos hk] at h
    by_cases h2 : 0 ≤ Tp.idx n fr 0
    · rw [if_pos h2] at h
      exact ⟨hk, (Tp.idx n fr 0).toNat, by omega, h⟩
    · rw [if_neg h2] at h; cases h
  · rw [if_neg hk] at h; cases h

set_option maxHeartbeats 2000000 in
set_option maxRecDepth 100000 in
theorem by_no (M : Nat) (kind : Int) (fv tv : Value) (fr : List Int) (to : List Tp) (K : Nat → Prop) (m : Nat) (s : Int) (w : World) (hr : Rep M kind fv tv fr to K m s w) (k n : Int) (v : Value) (hb : Tp.by kind fr to k n = none) :
    Calls Tryz.prog 64 #[.pointer (some ⟨M, 0, none⟩), .agg #[.int .i64 k, .int .i64 n, v]] w fun e w' => e = .returned (.tuple #[.agg #[.int .i64 0, .int .i64 0, .slice none 0 0], .bool false]) ∧ Below w.heap.size w w' := by
  have HB := Tp.by_none hr.len hb
  have hMl := hr.m.lt
  have c1 : ∀ wz, Below w.heap.size w wz → wz.cell? ⟨M, 1, none⟩ = some (.int .i64 kind) := fun wz hz => (hr.m.stays hz).rest 0 _ rfl
  have c2 : ∀ wz, Below w.heap.size w wz → wz.cell? ⟨M, 2, none⟩ = some fv := fun wz hz => (hr.m.stays hz).rest 1 _ rfl
  have d1 : ∀ o o', ((w.alloc o).alloc o').cell? ⟨M, 1, none⟩ = some (.int .i64 kind) := fun o o' => c1 _ (bl_alloc (bl_alloc (Below.refl _ _) _) _)
  have d2 : ∀ o o', ((w.alloc o).alloc o').cell? ⟨M, 2, none⟩ = some fv := fun o o' => c2 _ (bl_alloc (bl_alloc (Below.refl _ _) _) _)
  have hq : Hid (∀ wz, Below w.heap.size w wz → Calls Tryz.prog 96 #[fv, .int .i64 n] wz fun e w' => e = .returned (.int .i64 (Tp.idx n fr 0)) ∧ w' = wz) := fun wz hz => idxI_any wz fv fr n (hr.f.below hz).any
  obtain ⟨fa, fc, rfl, -⟩ := hr.f.form
  clear hb hr c1 c2
  rcases HB with h | ⟨h, h2⟩
  · have h1 : (k != kind) = true := by simpa using h
    clear h
    go_enter Tryz.func64, Tryz.ntmps64
    go_wp2
    go_quiet (fail)
    go_wp2
    refine bodyPost_ret (v := .tuple #[.agg #[.int .i64 0, .int .i64 0, .slice none 0 0], .bool false]) (by rw [results_cell_tmp (fn := Tryz.f64) (p := 4) (u := 5) (ty := 24) (by kernel_rfl)]; simp [go_sem]) rfl ?_
    exact ⟨rfl, by
      repeat' (first | exact Below.refl _ _ | with_reducible refine bl_alloc ?_ _ | with_reducible refine bl_dN ?_ _ | with_reducible refine bl_set _ _ ?_ ?_ | (simp; done))⟩
  · subst h
    rw [h2] at hq
    clear h2
    go_enter Tryz.func64, Tryz.ntmps64
    go_wp2
    go_quiet (fail)
    go_wp2
    have e1 : (((w.alloc (.cells #[.int .i64 k, .int .i64 n, v] 24)).alloc (.cells #[.int .i64 0, .int .i64 0, .slice none 0 0] 24)).drewN nq).cell? ⟨M, 2, none⟩ = some (.slice fa fr.length fc) := d2 _ _
    have e2 : (((w.alloc (.cells #[.int .i64 k, .int .i64 n, v] 24)).alloc (.cells #[.int .i64 0, .int .i64 0, .slice none 0 0] 24)).drewN nq).cell? ⟨w.heap.size, 1, none⟩ = some (.int .i64 n) := by simp [go_sem]
    have e3 : Arr (((w.alloc (.cells #[.int .i64 k, .int .i64 n, v] 24)).alloc (.cells #[.int .i64 0, .int .i64 0, .slice none 0 0] 24)).drewN nq) (w.heap.size + 1) 24 [.int .i64 0, .int .i64 0, .slice none 0 0] := ⟨by have := heap_alloc_at (w.alloc (.cells #[.int .i64 k, .int .i64 n, v] 24)) (.cells #[.int .i64 0, .int .i64 0, .slice none 0 0] 24); rw [size_alloc] at this; exact this⟩
    have e4 : Below w.heap.size w (((w.alloc (.cells #[.int .i64 k, .int .i64 n, v] 24)).alloc (.cells #[.int .i64 0, .int .i64 0, .slice none 0 0] 24)).drewN nq) := bl_dN (bl_alloc (bl_alloc (Below.refl _ _) _) _) _
    generalize (((w.alloc (.cells #[.int .i64 k, .int .i64 n, v] 24)).alloc (.cells #[.int .i64 0, .int .i64 0, .slice none 0 0] 24)).drewN nq) = W1 at e1 e2 e3 e4 ⊢
    have e5 := e3.cell
    have e6 := e3.frozen
    clear d1 d2 e3
    go_quiet (first | (go_at_call 96; refine Calls.quiet_of_same (hq.out _ (bl_dN e4 _))))
    go_wp2
    refine bodyPost_ret (v := .tuple #[.agg #[.int .i64 0, .int .i64 0, .slice none 0 0], .bool false]) (by rw [results_cell_tmp (fn := Tryz.f64) (p := 4) (u := 5) (ty := 24) (by kernel_rfl)]; simp [go_sem, e5]) rfl ?_
    exact ⟨rfl, by
      repeat' (first | exact e4 | with_reducible refine bl_alloc ?_ _ | with_reducible refine bl_dN ?_ _ | with_reducible refine bl_set _ _ ?_ ?_ | (simp; done))⟩

set_option maxHeartbeats 2000000 in
set_option maxRecDepth 100000 in
theorem by_yes0 (M : Nat) (k : Int) (fv : Value) (fr : List Int) (to : List Tp) (K : Nat → Prop) (m : Nat) (s : Int) (w : World) (tb to' tc : Nat) (hr : Rep M k fv (.slice (some ⟨tb, to', none⟩) to.length tc) fr to K m s w) (n : Int) (v : Value) (u : Tp) (i : Nat) (hi : Tp.idx n fr 0 = (i : Int)) (hil : i < to.length) (htm : to.length ≤ maxLen) (ua : Option Addr) (uc : Nat) (hbl : tb < w.heap.size)
    (x0 : w.cell? ⟨tb, to' + i * 3, none⟩ = some (.int .i64 u.k)) (x1 : w.cell? ⟨tb, to' + i * 3 + 1, none⟩ = some (.int .i64 u.n)) (x2 : w.cell? ⟨tb, to' + i * 3 + 2, none⟩ = some (.slice ua u.ks.length uc)) :
    Calls Tryz.prog 64 #[.pointer (some ⟨M, 0, none⟩), .agg #[.int .i64 k, .int .i64 n, v]] w fun e w' => e = .returned (.tuple #[.agg #[.int .i64 u.k, .int .i64 u.n, .slice ua u.ks.length uc], .bool true]) ∧ Below w.heap.size w w' := by
  have hMl := hr.m.lt
  have c1 : ∀ wz, Below w.heap.size w wz → wz.cell? ⟨M, 1, none⟩ = some (.int .i64 k) := fun wz hz => (hr.m.stays hz).rest 0 _ rfl
  have c2 : ∀ wz, Below w.heap.size w wz → wz.cell? ⟨M, 2, none⟩ = some fv := fun wz hz => (hr.m.stays hz).rest 1 _ rfl
  have c3 : ∀ wz, Below w.heap.size w wz → wz.cell? ⟨M, 3, none⟩ = some (.slice (some ⟨tb, to', none⟩) to.length tc) := fun wz hz => (hr.m.stays hz).rest 2 _ rfl
  have hq : Hid (∀ wz, Below w.heap.size w wz → Calls Tryz.prog 96 #[fv, .int .i64 n] wz fun e w' => e = .returned (.int .i64 (i : Int)) ∧ w' = wz) := fun wz hz => by rw [← hi]; exact idxI_any wz fv fr n (hr.f.below hz).any
  obtain ⟨fa, fc, rfl, -⟩ := hr.f.form
  have hil2 : (i : Int) < (to.length : Int) := by omega
  unfold maxLen at htm
  clear hr hi
  have d1 : ∀ o o', ((w.alloc o).alloc o').cell? ⟨M, 1, none⟩ = some (.int .i64 k) := fun o o' => c1 _ (bl_alloc (bl_alloc (Below.refl _ _) _) _)
  go_enter Tryz.func64, Tryz.ntmps64
  go_wp2
  go_quiet (fail)
  go_wp2
  have e2 : (((w.alloc (.cells #[.int .i64 k, .int .i64 n, v] 24)).alloc (.cells #[.int .i64 0, .int .i64 0, .slice none 0 0] 24)).drewN nq).cell? ⟨w.heap.size, 1, none⟩ = some (.int .i64 n) := by simp [go_sem]
  have e3 : Arr (((w.alloc (.cells #[.int .i64 k, .int .i64 n, v] 24)).alloc (.cells #[.int .i64 0, .int .i64 0, .slice none 0 0] 24)).drewN nq) (w.heap.size + 1) 24 [.int .i64 0, .int .i64 0, .slice none 0 0] := ⟨by have := heap_alloc_at (w.alloc (.cells #[.int .i64 k, .int .i64 n, v] 24)) (.cells #[.int .i64 0, .int .i64 0, .slice none 0 0] 24); rw [size_alloc] at this; exact this⟩
  have e4 : Below w.heap.size w (((w.alloc (.cells #[.int .i64 k, .int .i64 n, v] 24)).alloc (.cells #[.int .i64 0, .int .i64 0, .slice none 0 0] 24)).drewN nq) := bl_dN (bl_alloc (bl_alloc (Below.refl _ _) _) _) _
  generalize (((w.alloc (.cells #[.int .i64 k, .int .i64 n, v] 24)).alloc (.cells #[.int .i64 0, .int .i64 0, .slice none 0 0] 24)).drewN nq) = W1 at e2 e3 e4 ⊢
  have e5 := e3.cell
  have e6 := e3.frozen
  have e7 := c2 W1 e4
  have e8 := c3 W1 e4
  have y0 := (e4.cell (p := ⟨tb, to' + i * 3, none⟩) hbl).trans x0
  have y1 := (e4.cell (p := ⟨tb, to' + i * 3 + 1, none⟩) hbl).trans x1
  have y2 := (e4.cell (p := ⟨tb, to' + i * 3 + 2, none⟩) hbl).trans x2
  have hne : ¬ tb = w.heap.size + 1 := by omega
  clear d1 e3 c1 c2 c3 x0 x1 x2
  go_quiet (first | (go_at_call 96; refine Calls.quiet_of_same (hq.out _ (bl_dN e4 _))))
  go_wp2
  refine bodyPost_ret (v := .tuple #[.agg #[.int .i64 u.k, .int .i64 u.n, .slice ua u.ks.length uc], .bool true]) (by rw [results_cell_tmp (fn := Tryz.f64) (p := 4) (u := 5) (ty := 24) (by kernel_rfl)]; simp [go_sem, e5]) rfl ?_
  exact ⟨rfl, by
    repeat' (first | exact e4 | with_reducible refine bl_alloc ?_ _ | with_reducible refine bl_dN ?_ _ | with_reducible refine bl_set _ _ ?_ ?_ | (simp; done))⟩
theorem by_yes (M : Nat) (kind : Int) (fv tv : Value) (fr : List Int) (to : List Tp) (K : Nat → Prop) (m : Nat) (s : Int) (w : World) (hr : Rep M kind fv tv fr to K m s w) (k n : Int) (v : Value) (u : Tp) (hb : Tp.by kind fr to k n = some u) :
    ∃ a c, TAt w K m [.int .i64 u.k, .int .i64 u.n, .slice a u.ks.length c] u ∧ ∀ wz, Below w.heap.size w wz → Calls Tryz.prog 64 #[.pointer (some ⟨M, 0, none⟩), .agg #[.int .i64 k, .int .i64 n, v]] wz fun e w' => e = .returned (.tuple #[.agg #[.int .i64 u.k, .int .i64 u.n, .slice a u.ks.length c], .bool true]) ∧ Below wz.heap.size wz w' := by
  obtain ⟨rfl, i, hi, hu⟩ := Tp.by_some hb
  have hil : i < to.length := (List.getElem?_eq_some_iff.1 hu).1
  obtain ⟨ta, tc, htv, htm⟩ := hr.t.form
  subst htv
  obtain ⟨tb, to', rfl⟩ : ∃ b o, ta = some ⟨b, o, none⟩ := by
    rcases hr.t with ⟨b, o, c, hv, -⟩ | ⟨h0, -⟩
    · injection hv with e1 e2 e3; exact ⟨b, o, e1⟩
    · rw [h0] at hil; exact absurd hil (Nat.not_lt_zero _)
  obtain ⟨vu, hT, x0, x1, x2, -, hbl⟩ := hr.t.elem hu
  obtain ⟨ua, uc, ex⟩ := hT.form
  simp only [List.cons.injEq, and_true, true_and] at ex
  subst ex
  refine ⟨ua, uc, hT, fun wz hz => ?_⟩
  have hr2 : Rep M k fv (.slice (some ⟨tb, to', none⟩) to.length tc) fr to K m s wz := ⟨hr.m.stays hz, hr.f.below hz, hr.t.below hz, hr.len⟩
  exact by_yes0 M k fv fr to K m s wz tb to' tc hr2 n v u i hi hil htm ua uc (Nat.lt_of_lt_of_le hbl hz.size) ((hz.cell (p := ⟨tb, to' + i * 3, none⟩) hbl).trans x0) ((hz.cell (p := ⟨tb, to' + i * 3 + 1, none⟩) hbl).trans x1) ((hz.cell (p := ⟨tb, to' + i * 3 + 2, none⟩) hbl).trans x2)
end Go.Proofs.YtigliglmejkakaaGreat

namespace Go.Proofs.YtigliglmejkakaaGreat
open Go.RowKit
set_option linter.unusedVariables false
set_option linter.unusedSimpArgs false

theorem results_cell1 {fn : Func} {p : Tmp} {ty : TypeId} (h : fn.results = #[.cell p ty]) (tmps : Array Value) (P : Program) (w : World) :
    (results fn tmps).run P w = ((asAddr (tmps.getD p undef)).run P w).andThen fun a w₁ => ((loadVar ty a).run P w₁) := by
  simp only [results, h]
  simp [Sem.run_bind, Result.andThen]
theorem addr_add (b o k : Nat) : (⟨b, o, none⟩ : Addr).add k = ⟨b, o + k, none⟩ := by
  unfold Addr.add
  by_cases h : k = 0
  · subst h; simp
  · simp [h]
/-- What Clone leaves: the same values, in a block of its own. -/
def CloneT (w : World) (K : Nat → Prop) (n : Nat) (l : List Tp) (e : Ending) (w' : World) : Prop := ∃ v', e = .returned v' ∧ Below w.heap.size w w' ∧ ((l = [] ∧ ∃ p c, v' = .slice p 0 c) ∨ ∃ g cap cur, v' = .slice (some ⟨g, 0, none⟩) l.length cap ∧ w.heap.size ≤ g ∧ l.length ≤ cap ∧ Arr w' g 24 cur ∧ ∀ (i : Nat) x, l[i]? = some x → ∃ a c, TAt w K n [.int .i64 x.k, .int .i64 x.n, .slice a x.ks.length c] x ∧ Seg cur (i * 3) [.int .i64 x.k, .int .i64 x.n, .slice a x.ks.length c])
theorem clone_T (w : World) (K : Nat → Prop) (n : Nat) (v : Value) (l : List Tp) (h : TAtL w K n v l) (hl : l.length ≤ 1048576) : Calls Tryz.prog 97 #[v] w (CloneT w K n l) := by
  by_cases h0 : l = []
  · subst h0
    obtain ⟨a, c, rfl, -⟩ := h.form
    cases a with
    | none => exact (clone_nilT w 0 c).mono fun e w' ⟨h1, h2⟩ => ⟨_, h1, by rw [h2]; exact Below.refl _ _, .inl ⟨rfl, _, _, rfl⟩⟩
    | some a =>
      refine (clone_rawT w a 0 c [] rfl (fun j u hj => by simp at hj) (fun u hu => by cases hu) (by omega)).mono ?_
      rintro e w' ⟨v', rfl, hown, hb⟩
      refine ⟨v', rfl, hb, .inl ⟨rfl, ?_⟩⟩
      rcases hown.2 with ⟨h, -⟩ | ⟨g, cap, cur, h, -⟩
      · exact ⟨_, _, h⟩
      · exact ⟨_, _, h⟩
  · have hE := h
    obtain ⟨b, o, c, rfl, -, -, -, -⟩ := h.resolve_right (fun h => h0 h.1)
    have hcell : ∀ j, j < l.length * 3 → ∃ u, w.cell? ⟨b, o + j, none⟩ = some u ∧ u.oneCell' = true := by
      intro j hj
      obtain ⟨x, hx⟩ : ∃ x, l[j / 3]? = some x := ⟨_, List.getElem?_eq_getElem (by omega)⟩
      obtain ⟨vx, tx, x0, x1, x2, -, -⟩ := hE.elem hx
      obtain ⟨ax, cx, ex⟩ := tx.form
      simp only [List.cons.injEq, and_true, true_and] at ex
      subst ex
      rcases (by omega : j % 3 = 0 ∨ j % 3 = 1 ∨ j % 3 = 2) with hr | hr | hr
      · exact ⟨_, by rw [show o + j = o + j / 3 * 3 by omega]; exact x0, rfl⟩
      · exact ⟨_, by rw [show o + j = o + j / 3 * 3 + 1 by omega]; exact x1, rfl⟩
      · exact ⟨_, by rw [show o + j = o + j / 3 * 3 + 2 by omega]; exact x2, rfl⟩
    have hvl : ((List.range (l.length * 3)).map fun j => (w.cell? ⟨b, o + j, none⟩).getD (.bool false)).length = l.length * 3 := by simp
    have hvals : ∀ (j : Nat) u, ((List.range (l.length * 3)).map fun j => (w.cell? ⟨b, o + j, none⟩).getD (.bool false))[j]? = some u → w.cell? ⟨b, o + j, none⟩ = some u ∧ u.oneCell' = true := by
      intro j u hu
      obtain ⟨hj, e⟩ := List.getElem?_eq_some_iff.1 hu
      rw [hvl] at hj
      obtain ⟨u', h1, h2⟩ := hcell j hj
      simp [h1] at e
      subst e
      exact ⟨h1, h2⟩
    have hget : ∀ (j : Nat) u, j < l.length * 3 → w.cell? ⟨b, o + j, none⟩ = some u → ((List.range (l.length * 3)).map fun j => (w.cell? ⟨b, o + j, none⟩).getD (.bool false))[j]? = some u := by
      intro j u hj hu
      simp [hj, hu]
    generalize ((List.range (l.length * 3)).map fun j => (w.cell? ⟨b, o + j, none⟩).getD (.bool false)) = vals at hvl hvals hget
    refine (clone_rawT w ⟨b, o, none⟩ l.length c vals hvl (fun j u hj => by rw [addr_add]; exact (hvals j u hj).1) (fun u hu => by obtain ⟨j, hj⟩ := List.getElem?_of_mem hu; exact (hvals j u hj).2) hl).mono ?_
    rintro e w' ⟨v', rfl, hown, hb⟩
    refine ⟨v', rfl, hb, .inr ?_⟩
    rcases hown.2 with ⟨-, hz⟩ | ⟨g, cap, cur, rfl, hg, hh, hc, hm, hs, ht⟩
    · exact absurd (List.eq_nil_of_length_eq_zero hz) h0
    · refine ⟨g, cap, cur.toList, rfl, hg, hc, ⟨by rw [hh]⟩, fun i x hx => ?_⟩
      have hi := (List.getElem?_eq_some_iff.1 hx).1
      obtain ⟨vx, tx, x0, x1, x2, -, -⟩ := hE.elem hx
      obtain ⟨ax, cx, ex⟩ := tx.form
      simp only [List.cons.injEq, and_true, true_and] at ex
      subst ex
      have hcur : ∀ (j : Nat) u, vals[j]? = some u → cur.toList[j]? = some u := by
        intro j u hu
        rw [← ht] at hu
        rw [List.getElem?_take] at hu
        split at hu
        · exact hu
        · cases hu
      refine ⟨ax, cx, tx, fun j u hu => ?_⟩
      match j, hu with
      | 0, hu => simp at hu; subst hu; exact hcur _ _ (hget _ _ (by omega) (by rw [← Nat.add_assoc]; exact x0))
      | 1, hu => simp at hu; subst hu; exact hcur _ _ (hget _ _ (by omega) (by rw [← Nat.add_assoc]; exact x1))
      | 2, hu => simp at hu; subst hu; exact hcur _ _ (hget _ _ (by omega) (by rw [← Nat.add_assoc]; exact x2))
      | j + 3, hu => simp at hu
/-- What is made of a node, in new memory. -/
def MadeOf (g : FuncId) (fs : Array Value) (m : Tp → Tp) (w : World) (n : Nat) : Prop :=
  ∀ (wz : World) (vs : List Value) (t : Tp), Below w.heap.size w wz → TAt w (fun b => b < w.heap.size) n vs t → (m t).cnt ≤ 1000 →
    Calls Tryz.prog g (fs ++ #[.agg vs.toArray]) wz fun e w' => ∃ vs' n', e = .returned (.agg vs'.toArray) ∧ TAt w' (fun b => wz.heap.size ≤ b) n' vs' (m t) ∧ Below wz.heap.size wz w'
theorem Tp.cntL_len : ∀ l : List Tp, l.length ≤ Tp.cntL l
  | [] => Nat.le_refl _
  | x :: r => by rw [Tp.cntL]; have := Tp.cntL_len r; have : 1 ≤ x.cnt := (by cases x; rw [Tp.cnt]; omega); simp; omega
theorem Tp.cnt_le_cntL {l : List Tp} {x : Tp} (h : x ∈ l) : x.cnt ≤ Tp.cntL l := by
  induction l with
  | nil => cases h
  | cons y r ih =>
    rw [Tp.cntL]
    rcases List.mem_cons.1 h with rfl | h
    · omega
    · have := ih h; omega

theorem Seg.set3 {cur : List Value} {o : Nat} {a b c : Value} (h : o + 2 < cur.length) : Seg (((cur.set o a).set (o + 1) b).set (o + 2) c) o [a, b, c] := by
  intro j v hv
  match j, hv with
  | 0, hv => simp at hv; subst hv; simp [List.getElem?_set]; omega
  | 1, hv => simp at hv; subst hv; simp [List.getElem?_set]; omega
  | 2, hv => simp at hv; subst hv; simp [List.getElem?_set]; omega
  | j + 3, hv => simp at hv
theorem Seg.other3 {cur : List Value} {o p : Nat} {a b c : Value} {vs : List Value} (h : Seg cur p vs) (hv : vs.length = 3) (hp : p + 2 < o ∨ o + 2 < p) : Seg (((cur.set o a).set (o + 1) b).set (o + 2) c) p vs := by
  intro j v hj
  have hj3 := (List.getElem?_eq_some_iff.1 hj).1
  have := h j v hj
  rw [List.getElem?_set_ne (by omega), List.getElem?_set_ne (by omega), List.getElem?_set_ne (by omega)]
  exact this
end Go.Proofs.YtigliglmejkakaaGreat

namespace Go.Proofs.YtigliglmejkakaaGreat
open Go.RowKit
set_option linter.unusedVariables false

/-- The row of an append is the old one, or a new one. -/
def Fresh (w : World) (v v' : Value) : Prop := v'.ownBlock = v.ownBlock ∨ ∀ k, v'.ownBlock = some k → w.heap.size ≤ k
theorem append_own2 {P : Program} (w : World) (base : Nat) (t ty e : TypeId) (i : TypeInfo) (z : Value) (size bytes : Nat) (ht : P.underlying t = some (.slice e)) (hi : P.info? e = some i) (hz : i.zero = some z)
    (hsize : i.size = size) (hby : i.bytes = bytes) (hzs : z.cells.size = size) (hsz : 0 < size) (v : Value) (n : Nat) (xs : List Value) (hown : w.ownsRow base e size v n xs)
    (a : Addr) (m c : Nat) (news : List Value) (hl : news.length = m * size) (hnews : ∀ j u, news[j]? = some u → w.cell? (a.add j) = some u) (h1 : ∀ u ∈ news, u.oneCell' = true)
    (h63 : n + m ≤ maxLen) (hbytes : (n + m) * bytes ≤ 140737488355328) (hbase : base ≤ w.heap.size) :
    ∃ v' w', (Builtin.append_ #[t, t] ty #[v, .slice (some a) m c]).run P w = .ok v' w' ∧ w'.ownsRow base e size v' (n + m) (xs ++ news) ∧ w.grownBy w' v.ownBlock ∧ Fresh w v v' := by
  obtain ⟨v', w', hr, h2, h3, -⟩ := run_append_own (P := P) w base t ty e i z size bytes ht hi hz hsize hby hzs hsz v n xs hown a m c news hl hnews h1 h63 hbytes hbase
  refine ⟨v', w', hr, h2, h3, ?_⟩
  rcases hown.2 with ⟨hv, hn⟩ | ⟨g, cap, cur, hv, hbg, hg, hnc, hcm, hcs, htake⟩
  · have ho : w.ownsRow w.heap.size e size v n xs := ⟨hown.1, .inl ⟨hv, hn⟩⟩
    obtain ⟨v2, w2, hr2, h22, -, -⟩ := run_append_own (P := P) w w.heap.size t ty e i z size bytes ht hi hz hsize hby hzs hsz v n xs ho a m c news hl hnews h1 h63 hbytes (Nat.le_refl _)
    rw [hr] at hr2
    injection hr2 with e1 e2
    subst e1
    exact .inr fun k hk => (h22.lt k hk).1
  · subst hsize
    subst hby
    subst hv
    by_cases hroom : n + m ≤ cap
    · have hfit : n * i.size + news.length ≤ cur.size := by rw [hl, hcs, ← Nat.add_mul]; exact Nat.mul_le_mul_right _ hroom
      rw [run_append_room (P := P) w t ty e i ht hi g n cap cur hg a m c news hl hnews h1 hroom hfit] at hr
      injection hr with e1 e2
      subst e1
      exact .inl rfl
    · have h63' : ((n + m : Nat) : Int) ≤ 9223372036854775807 := by simp only [maxLen] at h63; omega
      rw [run_append_grow (P := P) w t ty e i z ht hi hz ⟨g, 0, none⟩ n cap xs hown.1 (hown.cells (g := g) rfl) a m c news hl hnews (by omega) h63' (growslice_fits (by omega) hbytes)] at hr
      injection hr with e1 e2
      subst e1
      refine .inr fun k hk => ?_
      simp [Value.ownBlock] at hk
      omega
/-- Such an append, as one operation of a region that draws its order. -/
theorem step_append2 {P : Program} {ops : Array Oper} {o : Oper} {a : Act} {w : World} {K : Act → World → Prop} {Q : Exit → Act → World → Prop} {E : Prop}
    (hgd : o.guard = none) (s x : Operand) (t : TypeId) (hop : o.op = .call { callee := .builtin .append, args := #[s, x], argTypes := #[t, t] })
    (base : Nat) (e : TypeId) (i : TypeInfo) (z : Value) (size bytes : Nat) (ht : P.underlying t = some (.slice e)) (hi : P.info? e = some i) (hz : i.zero = some z)
    (hsize : i.size = size) (hby : i.bytes = bytes) (hzs : z.cells.size = size) (hsz : 0 < size) (v : Value) (n : Nat) (xs : List Value) (hs : a.eval s = v) (hown : w.ownsRow base e size v n xs)
    (ad : Addr) (m c : Nat) (news : List Value) (hx : a.eval x = .slice (some ad) m c) (hl : news.length = m * size) (hnews : ∀ j u, news[j]? = some u → w.cell? (ad.add j) = some u) (h1 : ∀ u ∈ news, u.oneCell' = true)
    (h63 : n + m ≤ maxLen) (hbytes : (n + m) * bytes ≤ 140737488355328) (hbase : base ≤ w.heap.size)
    (hK : ∀ v' w', w'.ownsRow base e size v' (n + m) (xs ++ news) → w.grownBy w' v.ownBlock → Fresh w v v' → K (a.put o.dst v') w') :
    if Region.wanted o (yielded ops a.tmps) = true then Oper.wp P o a w K Q else E := by
  have hw : Region.wanted o (yielded ops a.tmps) = true := by simp [Region.wanted, hgd]
  rw [if_pos hw]
  obtain ⟨v', w', hr, h2, h3, h4⟩ := append_own2 (P := P) w base t o.type e i z size bytes ht hi hz hsize hby hzs hsz v n xs hown ad m c news hl hnews h1 h63 hbytes hbase
  unfold Oper.wp execOp
  simp only [hop, resolve, invoke, builtin, Sem.run_bind, Sem.run_pure, Result.andThen_ok, List.map_toArray, List.map_cons, List.map_nil, hs, hx, hr]
  exact hK v' w' h2 h3 h4
end Go.Proofs.YtigliglmejkakaaGreat

namespace Go.Proofs.YtigliglmejkakaaGreat
open Go.RowKit
set_option linter.unusedVariables false
set_option linter.unusedSimpArgs false

def Tp.has (n : Int) : List Int → Bool
  | [] => false
  | x :: r => if x = n then true else Tp.has n r
theorem Tp.has_at {n : Int} {l : List Int} {k : Nat} {x : Int} (hx : l[k]? = some x) : Tp.has n (l.drop k) = if x = n then true else Tp.has n (l.drop (k + 1)) := by
  obtain ⟨h1, e1⟩ := List.getElem?_eq_some_iff.1 hx
  rw [List.drop_eq_getElem_cons h1, e1, Tp.has]
theorem Tp.has_mem (n : Int) : ∀ l : List Int, Tp.has n l = decide (n ∈ l)
  | [] => by simp [Tp.has]
  | x :: r => by
    rw [Tp.has, Tp.has_mem n r]
    by_cases h : x = n
    · rw [if_pos h]; simp [h]
    · rw [if_neg h, decide_eq_decide, List.mem_cons]
      exact ⟨.inr, fun h2 => h2.elim (fun e => absurd e.symm h) id⟩

theorem Tp.cnt_ks' (t : Tp) : t.cnt = Tp.cntL t.ks + 1 := by cases t; rw [Tp.cnt]; rfl
def Tp.cap (n : Int) : Int := if 1000 < n then 1001 else n
theorem Tp.cap_small {n : Int} (h : n ≤ 1000) : Tp.cap n = n := by unfold Tp.cap; rw [if_neg (by omega)]
theorem Tp.cap_big {n : Int} (h : 1000 < n) : Tp.cap n = 1001 := by unfold Tp.cap; rw [if_pos h]
theorem Tp.upto_cap (n : Int) : (Tp.upto n).1 = Tp.cap n := by unfold Tp.upto Tp.cap; split <;> split <;> first | rfl | omega
theorem Tp.cntL_drop {l : List Tp} {k : Nat} {x : Tp} (hx : l[k]? = some x) : Tp.cntL (l.drop k) = x.cnt + Tp.cntL (l.drop (k + 1)) := by
  obtain ⟨h1, e1⟩ := List.getElem?_eq_some_iff.1 hx
  rw [List.drop_eq_getElem_cons h1, e1, Tp.cntL]
end Go.Proofs.YtigliglmejkakaaGreat
