/- The meter; Size, Fits. -/
import Derived.BigQuiet
import Derived.Test.YtknlpeloaapaiaaTpW
namespace Go.Proofs.Ytknlpeloaapaiaa
open Go.RowKit
set_option linter.unusedVariables false

/-- A number in the first cell of a block that may be written; the rest of the block is cs. -/
structure Mtr (M : Nat) (cs : List Value) (T : TypeId) (s : Int) (w : World) : Prop where
  block : w.heap[M]? = some (.cells (.int .i64 s :: cs).toArray T (0, 0))
theorem Mtr.lt {M : Nat} {cs : List Value} {T : TypeId} {s : Int} {w : World} (h : Mtr M cs T s w) : M < w.heap.size := by
  rcases Nat.lt_or_ge M w.heap.size with h' | h'
  · exact h'
  · have := h.block; simp [Array.getElem?_eq_none h'] at this
theorem Mtr.cell {M : Nat} {cs : List Value} {T : TypeId} {s : Int} {w : World} (h : Mtr M cs T s w) : w.cell? ⟨M, 0, none⟩ = some (.int .i64 s) := by
  simp [World.cell?, h.block]
theorem Mtr.frozen {M : Nat} {cs : List Value} {T : TypeId} {s : Int} {w : World} (h : Mtr M cs T s w) : w.frozen? ⟨M, 0, none⟩ = false := by
  simp [World.frozen?, h.block]
theorem Mtr.rest {M : Nat} {cs : List Value} {T : TypeId} {s : Int} {w : World} (h : Mtr M cs T s w) (j : Nat) (v : Value) (hv : cs[j]? = some v) : w.cell? ⟨M, j + 1, none⟩ = some v := by
  simp [World.cell?, h.block, hv]
theorem Mtr.stays {M : Nat} {cs : List Value} {T : TypeId} {s : Int} {w w' : World} (h : Mtr M cs T s w) (hb : Below w.heap.size w w') : Mtr M cs T s w' := ⟨by rw [hb.block M h.lt]; exact h.block⟩
theorem Mtr.set {M : Nat} {cs : List Value} {T : TypeId} {s : Int} {w : World} (h : Mtr M cs T s w) (s' : Int) : Mtr M cs T s' (w.setCell ⟨M, 0, none⟩ (.int .i64 s')) := by
  constructor
  simp [World.setCell, Array.getElem?_modify, h.block]
theorem Ev.set {own o1 : Nat → Prop} {w w1 : World} (h : Ev own w o1 w1) {p : Addr} (hp : o1 p.block) (u : Value) : Ev own w o1 (w1.setCell p u) :=
  h.trans ⟨rfl, rfl, rfl, by simp [World.setCell], fun _ h => .inl h, fun b hb hn => Below.heap_setCell _ _ _ _ (fun e => hn (e ▸ hp))⟩
/-- The meter in block M, nothing else is written. -/
def ICount (M : Nat) (cs : List Value) (T : TypeId) (s : Int) (own : Nat → Prop) (w : World) : Prop := Mtr M cs T s w ∧ own = (fun b => b = M)
theorem ICount.steady (M : Nat) (cs : List Value) (T : TypeId) : Steady (ICount M cs T) := ⟨fun s own w w' h hb => ⟨h.1.stays hb, h.2⟩, fun s own w b h ho => by rw [h.2] at ho; rw [ho]; exact h.1.lt⟩

set_option maxHeartbeats 1000000 in
set_option maxRecDepth 100000 in
theorem count_any (M : Nat) (cs : List Value) (T : TypeId) (s : Int) (w : World) (v0 v1 v2 : Value) (h : Mtr M cs T s w) : Calls Try.prog 76 #[.pointer (some ⟨M, 0, none⟩), .agg #[v0, v1, v2]] w fun e w' => e = .returned (.tuple #[.bool true, .bool (decide (wrap64 (s + 1) ≤ 1000))]) ∧ Mtr M cs T (wrap64 (s + 1)) w' ∧ Ev (fun b => b = M) w (fun b => b = M) w' := by
  have hw1 : ∀ o, Mtr M cs T s (w.alloc o) := fun o => h.stays (bl_alloc (Below.refl _ _) o)
  have c0 : ∀ o, (w.alloc o).cell? ⟨M, 0, none⟩ = some (.int .i64 s) := fun o => (hw1 o).cell
  have f0 : ∀ o, (w.alloc o).frozen? ⟨M, 0, none⟩ = false := fun o => (hw1 o).frozen
  have HW : Hid (∀ o, Mtr M cs T s (w.alloc o)) := hw1
  clear hw1 h
  go_enter Try.func76, Try.ntmps76
  go_wp2
  go_quiet (fail)
  go_wp2
  go_ret2
  refine ⟨rfl, ?_, ?_⟩
  · exact ((HW.out _).set (wrap64 (s + 1))).stays (bl_drewN _ _)
  · exact Ev.trans (o1 := fun b => b = M) (Ev.set (o1 := fun b => b = M) (p := ⟨M, 0, none⟩) (Ev.alloc (Ev.refl _ _) _) rfl _) (Ev.of_below (bl_drewN _ _))
theorem count_see (M : Nat) (cs : List Value) (T : TypeId) (o0 : Nat → Prop) (w0 : World) (n : Nat) : SeeOf 76 #[.pointer (some ⟨M, 0, none⟩)] Tp.fCount (ICount M cs T) o0 w0 n := by
  intro w own s vs t hI hE hT
  obtain ⟨a, c, rfl⟩ := hT.form
  obtain ⟨hM, rfl⟩ := hI
  refine (count_any M cs T s w _ _ _ hM).mono ?_
  rintro e w' ⟨rfl, h1, h2⟩
  exact ⟨rfl, _, ⟨h1, rfl⟩, h2⟩
theorem enters_count : Enters 76 := enters_of Try.func76 (by kernel_rfl) rfl
theorem walk_count0 (M : Nat) (cs : List Value) (T : TypeId) (s : Int) (w : World) (n : Nat) (vs : List Value) (t : Tp) (h : Mtr M cs T s w) (hT : TAt w (fun b => b ≠ M) n vs t) :
    Calls Try.prog 38 #[.agg vs.toArray, .func (.func 76) #[.pointer (some ⟨M, 0, none⟩)] #[]] w fun e w' => e = .returned (.bool (Tp.walk Tp.fCount t s).2) ∧ Mtr M cs T (Tp.walk Tp.fCount t s).1 w' ∧ Ev (fun b => b = M) w (fun b => b = M) w' := by
  have hT1 : TAt w (Free (fun b => b = M) w) n vs t := TAt.oldK hT
  refine (walk_any _ _ _ (ICount M cs T) (fun b => b = M) w (ICount.steady M cs T) enters_count (count_see M cs T _ w) n w (fun b => b = M) s vs t ⟨h, rfl⟩ (Ev.refl _ _) hT1).mono ?_
  rintro e w' ⟨rfl, own', ⟨hI, rfl⟩, hE⟩
  exact ⟨rfl, hI, hE⟩
/-- walk with a meter. -/
theorem walk_count (M : Nat) (cs : List Value) (T : TypeId) (s : Int) (w : World) (n : Nat) (vs : List Value) (t : Tp) (h : Mtr M cs T s w) (h0 : 0 ≤ s) (h1 : s ≤ 1000) (hT : TAt w (fun b => b ≠ M) n vs t) :
    Calls Try.prog 38 #[.agg vs.toArray, .func (.func 76) #[.pointer (some ⟨M, 0, none⟩)] #[]] w fun e w' => e = .returned (.bool (Tp.upto (s + t.cnt)).2) ∧ Mtr M cs T (Tp.upto (s + t.cnt)).1 w' ∧ Ev (fun b => b = M) w (fun b => b = M) w' := by
  have hT1 : TAt w (Free (fun b => b = M) w) n vs t := TAt.oldK hT
  refine (walk_any _ _ _ (ICount M cs T) (fun b => b = M) w (ICount.steady M cs T) enters_count (count_see M cs T _ w) n w (fun b => b = M) s vs t ⟨h, rfl⟩ (Ev.refl _ _) hT1).mono ?_
  rintro e w' ⟨rfl, own', ⟨hI, rfl⟩, hE⟩
  rw [Tp.walk_count t s h0 h1] at hI ⊢
  exact ⟨rfl, hI, hE⟩

set_option maxRecDepth 100000 in
theorem size_any (w : World) (n : Nat) (vs : List Value) (t : Tp) (hT : TAt w Any n vs t) : Calls Try.prog 47 #[.agg vs.toArray] w fun e w' => e = .returned (.tuple #[.int .i64 (Tp.upto t.cnt).1, .bool (Tp.upto t.cnt).2]) ∧ Below w.heap.size w w' := by
  have hq : Hid (∀ o, Calls Try.prog 38 #[.agg vs.toArray, .func (.func 76) #[.pointer (some ⟨w.heap.size + 1, 0, none⟩)] #[]] ((w.alloc o).alloc (.cells #[.int .i64 0] 118)) fun e w' => e = .returned (.bool (Tp.upto t.cnt).2) ∧ w'.cell? ⟨w.heap.size + 1, 0, none⟩ = some (.int .i64 (Tp.upto t.cnt).1) ∧ Below w.heap.size w w') := by
    intro o
    have hb : Below w.heap.size w ((w.alloc o).alloc (.cells #[.int .i64 0] 118)) := bl_alloc (bl_alloc (Below.refl _ _) _) _
    have hT1 : TAt ((w.alloc o).alloc (.cells #[.int .i64 0] 118)) (fun b => b ≠ w.heap.size + 1) n vs t := (TAt.old hT).move (Keeps.of_below hb) fun b h => by omega
    have hM : Mtr (w.heap.size + 1) [] 118 0 ((w.alloc o).alloc (.cells #[.int .i64 0] 118)) := ⟨by have := heap_alloc_at (w.alloc o) (.cells #[.int .i64 0] 118); rwa [size_alloc] at this⟩
    refine (walk_count (w.heap.size + 1) [] 118 0 _ n vs t hM (by decide) (by decide) hT1).mono ?_
    rintro e w' ⟨rfl, h1, h2⟩
    rw [Int.zero_add] at h1 ⊢
    exact ⟨rfl, h1.cell, hb.trans (h2.below (by rw [size_alloc, size_alloc]; omega) (fun b hb => by rw [hb]; omega))⟩
  obtain ⟨a, c, rfl⟩ := hT.form
  clear hT
  generalize Tp.upto t.cnt = q at hq
  obtain ⟨q1, q2⟩ := q
  simp only at hq
  go_enter Try.func47, Try.ntmps47
  go_wp2_with (go_at_call 38; refine (hq.out _).mono ?_; rintro e w2 ⟨rfl, hc, hb2⟩)
  go_ret2
  exact ⟨rfl, hb2⟩
set_option maxRecDepth 100000 in
theorem Fits_any (w : World) (n : Nat) (vs : List Value) (t : Tp) (hT : TAt w Any n vs t) : Calls Try.prog 22 #[.agg vs.toArray] w fun e w' => e = .returned (.bool (Tp.upto t.cnt).2) ∧ Below w.heap.size w w' := by
  have hq : Hid (∀ o, Calls Try.prog 47 #[.agg vs.toArray] (w.alloc o) fun e w' => e = .returned (.tuple #[.int .i64 (Tp.upto t.cnt).1, .bool (Tp.upto t.cnt).2]) ∧ Below (w.alloc o).heap.size (w.alloc o) w') := fun o => size_any (w.alloc o) n vs t (hT.below (bl_alloc (Below.refl _ _) _))
  obtain ⟨a, c, rfl⟩ := hT.form
  clear hT
  go_enter Try.func22, Try.ntmps22
  go_wp2_with (go_at_call 47; refine (hq.out _).mono ?_; rintro e w2 ⟨rfl, hb2⟩)
  go_ret
  exact ⟨rfl, bl_tr (bl_alloc (Below.refl _ _) _) hb2⟩
end Go.Proofs.Ytknlpeloaapaiaa
