/- The document's Same, all sorts at once; of two nodes. -/
import Derived.Test.YtgiegjghldhppaaNdX0
import Derived.Test.YtgiegjghldhppaaNdX1
import Derived.Test.YtgiegjghldhppaaNdX2
import Derived.Test.YtgiegjghldhppaaNdX3
import Derived.Test.YtgiegjghldhppaaNdX4
import Derived.Test.YtgiegjghldhppaaNdX5
import Derived.Test.YtgiegjghldhppaaNdX6
import Derived.Test.YtgiegjghldhppaaNdX7
import Derived.Test.YtgiegjghldhppaaNdA
namespace Go.Proofs.Ytgiegjghldhppaa
open Go.RowKit
set_option linter.unusedVariables false

theorem AtL.zero {w : World} {s : Nat} {v : Value} {l : List Nd} (h : AtL w Any 0 s v l) : l = [] := by
  rcases h with ⟨b, o, c, -, -, -, -, hk⟩ | ⟨h, -⟩
  · cases l with
    | nil => rfl
    | cons x r => obtain ⟨vs, -, -, h⟩ := hk 0 x rfl; exact h.elim
  · exact h

theorem refBase0 : RefSameOf 39 0 0 := by
  intro w v1 v2 xs ys h1 h2
  obtain rfl := h1.zero
  obtain rfl := h2.zero
  obtain ⟨a1, c1, rfl, -⟩ := h1.form
  obtain ⟨a2, c2, rfl, -⟩ := h2.form
  clear h1 h2
  go_enter Try.func39, Try.ntmps39
  go_wp2
  go_loopw [5] (fun v wr => v = .int .i64 0 ∧ wr = w) (fun _ _ => 0)
  case atStart => exact ⟨rfl, rfl⟩
  case round =>
    obtain ⟨rfl, rfl⟩ := hrel
    go_wp2
    go_ret
    exact ⟨ret_bool Nd.eqL_nil.symm, Below.refl _ _⟩

theorem refBase1 : RefSameOf 38 0 1 := by
  intro w v1 v2 xs ys h1 h2
  obtain rfl := h1.zero
  obtain rfl := h2.zero
  obtain ⟨a1, c1, rfl, -⟩ := h1.form
  obtain ⟨a2, c2, rfl, -⟩ := h2.form
  clear h1 h2
  go_enter Try.func38, Try.ntmps38
  go_wp2
  go_loopw [5] (fun v wr => v = .int .i64 0 ∧ wr = w) (fun _ _ => 0)
  case atStart => exact ⟨rfl, rfl⟩
  case round =>
    obtain ⟨rfl, rfl⟩ := hrel
    go_wp2
    go_ret
    exact ⟨ret_bool Nd.eqL_nil.symm, Below.refl _ _⟩

theorem refBase2 : RefSameOf 26 0 2 := by
  intro w v1 v2 xs ys h1 h2
  obtain rfl := h1.zero
  obtain rfl := h2.zero
  obtain ⟨a1, c1, rfl, -⟩ := h1.form
  obtain ⟨a2, c2, rfl, -⟩ := h2.form
  clear h1 h2
  go_enter Try.func26, Try.ntmps26
  go_wp2
  go_loopw [5] (fun v wr => v = .int .i64 0 ∧ wr = w) (fun _ _ => 0)
  case atStart => exact ⟨rfl, rfl⟩
  case round =>
    obtain ⟨rfl, rfl⟩ := hrel
    go_wp2
    go_ret
    exact ⟨ret_bool Nd.eqL_nil.symm, Below.refl _ _⟩

theorem refBase3 : RefSameOf 21 0 3 := by
  intro w v1 v2 xs ys h1 h2
  obtain rfl := h1.zero
  obtain rfl := h2.zero
  obtain ⟨a1, c1, rfl, -⟩ := h1.form
  obtain ⟨a2, c2, rfl, -⟩ := h2.form
  clear h1 h2
  go_enter Try.func21, Try.ntmps21
  go_wp2
  go_loopw [5] (fun v wr => v = .int .i64 0 ∧ wr = w) (fun _ _ => 0)
  case atStart => exact ⟨rfl, rfl⟩
  case round =>
    obtain ⟨rfl, rfl⟩ := hrel
    go_wp2
    go_ret
    exact ⟨ret_bool Nd.eqL_nil.symm, Below.refl _ _⟩

theorem refBase4 : RefSameOf 43 0 4 := by
  intro w v1 v2 xs ys h1 h2
  obtain rfl := h1.zero
  obtain rfl := h2.zero
  obtain ⟨a1, c1, rfl, -⟩ := h1.form
  obtain ⟨a2, c2, rfl, -⟩ := h2.form
  clear h1 h2
  go_enter Try.func43, Try.ntmps43
  go_wp2
  go_loopw [5] (fun v wr => v = .int .i64 0 ∧ wr = w) (fun _ _ => 0)
  case atStart => exact ⟨rfl, rfl⟩
  case round =>
    obtain ⟨rfl, rfl⟩ := hrel
    go_wp2
    go_ret
    exact ⟨ret_bool Nd.eqL_nil.symm, Below.refl _ _⟩

theorem refBase5 : RefSameOf 34 0 5 := by
  intro w v1 v2 xs ys h1 h2
  obtain rfl := h1.zero
  obtain rfl := h2.zero
  obtain ⟨a1, c1, rfl, -⟩ := h1.form
  obtain ⟨a2, c2, rfl, -⟩ := h2.form
  clear h1 h2
  go_enter Try.func34, Try.ntmps34
  go_wp2
  go_loopw [5] (fun v wr => v = .int .i64 0 ∧ wr = w) (fun _ _ => 0)
  case atStart => exact ⟨rfl, rfl⟩
  case round =>
    obtain ⟨rfl, rfl⟩ := hrel
    go_wp2
    go_ret
    exact ⟨ret_bool Nd.eqL_nil.symm, Below.refl _ _⟩

theorem refBase6 : RefSameOf 37 0 6 := by
  intro w v1 v2 xs ys h1 h2
  obtain rfl := h1.zero
  obtain rfl := h2.zero
  obtain ⟨a1, c1, rfl, -⟩ := h1.form
  obtain ⟨a2, c2, rfl, -⟩ := h2.form
  clear h1 h2
  go_enter Try.func37, Try.ntmps37
  go_wp2
  go_loopw [5] (fun v wr => v = .int .i64 0 ∧ wr = w) (fun _ _ => 0)
  case atStart => exact ⟨rfl, rfl⟩
  case round =>
    obtain ⟨rfl, rfl⟩ := hrel
    go_wp2
    go_ret
    exact ⟨ret_bool Nd.eqL_nil.symm, Below.refl _ _⟩

theorem refBase7 : RefSameOf 50 0 7 := by
  intro w v1 v2 xs ys h1 h2
  obtain rfl := h1.zero
  obtain rfl := h2.zero
  obtain ⟨a1, c1, rfl, -⟩ := h1.form
  obtain ⟨a2, c2, rfl, -⟩ := h2.form
  clear h1 h2
  go_enter Try.func50, Try.ntmps50
  go_wp2
  go_loopw [5] (fun v wr => v = .int .i64 0 ∧ wr = w) (fun _ _ => 0)
  case atStart => exact ⟨rfl, rfl⟩
  case round =>
    obtain ⟨rfl, rfl⟩ := hrel
    go_wp2
    go_ret
    exact ⟨ret_bool Nd.eqL_nil.symm, Below.refl _ _⟩

structure RefAll (n : Nat) : Prop where
  s0 : RefSameOf 39 n 0
  s1 : RefSameOf 38 n 1
  s2 : RefSameOf 26 n 2
  s3 : RefSameOf 21 n 3
  s4 : RefSameOf 43 n 4
  s5 : RefSameOf 34 n 5
  s6 : RefSameOf 37 n 6
  s7 : RefSameOf 50 n 7
theorem ref_all : ∀ n, RefAll n
  | 0 => ⟨refBase0, refBase1, refBase2, refBase3, refBase4, refBase5, refBase6, refBase7⟩
  | n + 1 =>
    have h := ref_all n
    ⟨refSame0 n h.s0, refSame1 n h.s1, refSame2 n h.s1 h.s2 h.s3 h.s0, refSame3 n h.s0 h.s2 h.s4 h.s5 h.s6, refSame4 n h.s0, refSame5 n h.s3 h.s5 h.s6, refSame6 n h.s7 h.s6 h.s0, refSame7 n h.s0 h.s4 h.s6⟩
theorem Nd.eqL_one (A B : Nd) : Nd.eqL [A] [B] = Nd.eq A B := by rw [Nd.eqL_cons, Nd.eqL_nil, Bool.and_true]
theorem refDecs_any (n : Nat) (w : World) (v1 v2 : Value) (xs ys : List Nd) (h1 : AtL w Any n 3 v1 xs) (h2 : AtL w Any n 3 v2 ys) :
    Calls Try.prog 7 #[v1, v2] w fun e w' => e = .returned (.bool (Nd.eqL xs ys)) ∧ Below w.heap.size w w' := by
  have q := (ref_all n).s3 w v1 v2 xs ys h1 h2
  go_enter Try.func7, Try.ntmps7
  go_wp2_with (go_at_call 21; refine q.mono ?_; rintro e w1 ⟨rfl, hb1⟩)
  go_ret
  exact ⟨rfl, hb1⟩
/-- Two lists of one node each, made behind two boxes. -/
theorem made2 {w : World} {n s : Nat} {va vb : List Value} {A B : Nd} (ha : va.length = Nd.size s) (hb : vb.length = Nd.size s) (hA : At w Any n s va A) (hB : At w Any n s vb B) (o1 o2 : Obj) (t : TypeId) :
    AtL ((((w.alloc o1).alloc o2).alloc (.cells va.toArray t)).alloc (.cells vb.toArray t)) Any n s (.slice (some ⟨w.heap.size + 1 + 1, 0, .none⟩) 1 1) [A] ∧ AtL ((((w.alloc o1).alloc o2).alloc (.cells va.toArray t)).alloc (.cells vb.toArray t)) Any n s (.slice (some ⟨w.heap.size + 1 + 1 + 1, 0, .none⟩) 1 1) [B] := by
  have k : Below w.heap.size w ((w.alloc o1).alloc o2) := bl_alloc (bl_alloc (Below.refl _ _) _) _
  have h1 := AtL.made1 (t := t) ha (At.move (Keeps.of_below k) (fun _ h => h) _ _ _ _ hA)
  have h2 := AtL.made1 (t := t) hb (At.move (Keeps.of_below (bl_alloc k (.cells va.toArray t))) (fun _ h => h) _ _ _ _ hB)
  rw [show ((w.alloc o1).alloc o2).heap.size = w.heap.size + 1 + 1 by simp] at h1
  rw [show (((w.alloc o1).alloc o2).alloc (.cells va.toArray t)).heap.size = w.heap.size + 1 + 1 + 1 by simp] at h2
  exact ⟨h1.below (bl_alloc (Below.refl _ _) _), h2⟩

set_option maxRecDepth 100000 in
theorem refOne0 (n : Nat) : SameOf 18 n 0 := by
  intro w va vb A B hA hB
  obtain ⟨i0x, s1x, a2x, n2x, c2x, d0x, m0x, e0x, rfl⟩ := At.ty_form hA
  obtain ⟨i0y, s1y, a2y, n2y, c2y, d0y, m0y, e0y, rfl⟩ := At.ty_form hB
  have hM : Hid (∀ o1 o2 t, _) := fun o1 o2 t => made2 rfl rfl hA hB o1 o2 t
  have q : Hid (∀ w v1 v2, _ → _ → _) := fun w v1 v2 h1 h2 => (ref_all n).s0 w v1 v2 [A] [B] h1 h2
  rw [Nd.eqL_one] at q
  clear hA hB
  go_enter Try.func18, Try.ntmps18
  go_wp2_with (go_at_call 39; refine (q.out _ _ _ (hM.out _ _ _).1 (hM.out _ _ _).2).mono ?_; rintro e w1 ⟨rfl, hb1⟩; have hB := bl_tr (bl_alloc (bl_alloc (bl_alloc (bl_alloc (Below.refl _ _) _) _) _) _) hb1)
  go_ret
  exact ⟨rfl, hB⟩

set_option maxRecDepth 100000 in
theorem refOne1 (n : Nat) : SameOf 16 n 1 := by
  intro w va vb A B hA hB
  obtain ⟨i0x, s1x, a2x, n2x, c2x, i3x, d0x, m0x, e0x, rfl⟩ := At.pat_form hA
  obtain ⟨i0y, s1y, a2y, n2y, c2y, i3y, d0y, m0y, e0y, rfl⟩ := At.pat_form hB
  have hM : Hid (∀ o1 o2 t, _) := fun o1 o2 t => made2 rfl rfl hA hB o1 o2 t
  have q : Hid (∀ w v1 v2, _ → _ → _) := fun w v1 v2 h1 h2 => (ref_all n).s1 w v1 v2 [A] [B] h1 h2
  rw [Nd.eqL_one] at q
  clear hA hB
  go_enter Try.func16, Try.ntmps16
  go_wp2_with (go_at_call 38; refine (q.out _ _ _ (hM.out _ _ _).1 (hM.out _ _ _).2).mono ?_; rintro e w1 ⟨rfl, hb1⟩; have hB := bl_tr (bl_alloc (bl_alloc (bl_alloc (bl_alloc (Below.refl _ _) _) _) _) _) hb1)
  go_ret
  exact ⟨rfl, hB⟩

set_option maxRecDepth 100000 in
theorem refOne2 (n : Nat) : SameOf 9 n 2 := by
  intro w va vb A B hA hB
  obtain ⟨i0x, i1x, i2x, a3x, n3x, c3x, d0x, m0x, e0x, d1x, m1x, e1x, d2x, m2x, e2x, d3x, m3x, e3x, rfl⟩ := At.exp_form hA
  obtain ⟨i0y, i1y, i2y, a3y, n3y, c3y, d0y, m0y, e0y, d1y, m1y, e1y, d2y, m2y, e2y, d3y, m3y, e3y, rfl⟩ := At.exp_form hB
  have hM : Hid (∀ o1 o2 t, _) := fun o1 o2 t => made2 rfl rfl hA hB o1 o2 t
  have q : Hid (∀ w v1 v2, _ → _ → _) := fun w v1 v2 h1 h2 => (ref_all n).s2 w v1 v2 [A] [B] h1 h2
  rw [Nd.eqL_one] at q
  clear hA hB
  go_enter Try.func9, Try.ntmps9
  go_wp2_with (go_at_call 26; refine (q.out _ _ _ (hM.out _ _ _).1 (hM.out _ _ _).2).mono ?_; rintro e w1 ⟨rfl, hb1⟩; have hB := bl_tr (bl_alloc (bl_alloc (bl_alloc (bl_alloc (Below.refl _ _) _) _) _) _) hb1)
  go_ret
  exact ⟨rfl, hB⟩

set_option maxRecDepth 100000 in
theorem refOne5 (n : Nat) : SameOf 12 n 5 := by
  intro w va vb A B hA hB
  obtain ⟨i0x, a1x, n1x, c1x, d0x, m0x, e0x, d1x, m1x, e1x, d2x, m2x, e2x, rfl⟩ := At.mod_form hA
  obtain ⟨i0y, a1y, n1y, c1y, d0y, m0y, e0y, d1y, m1y, e1y, d2y, m2y, e2y, rfl⟩ := At.mod_form hB
  have hM : Hid (∀ o1 o2 t, _) := fun o1 o2 t => made2 rfl rfl hA hB o1 o2 t
  have q : Hid (∀ w v1 v2, _ → _ → _) := fun w v1 v2 h1 h2 => (ref_all n).s5 w v1 v2 [A] [B] h1 h2
  rw [Nd.eqL_one] at q
  clear hA hB
  go_enter Try.func12, Try.ntmps12
  go_wp2_with (go_at_call 34; refine (q.out _ _ _ (hM.out _ _ _).1 (hM.out _ _ _).2).mono ?_; rintro e w1 ⟨rfl, hb1⟩; have hB := bl_tr (bl_alloc (bl_alloc (bl_alloc (bl_alloc (Below.refl _ _) _) _) _) _) hb1)
  go_ret
  exact ⟨rfl, hB⟩

set_option maxRecDepth 100000 in
theorem refOne6 (n : Nat) : SameOf 14 n 6 := by
  intro w va vb A B hA hB
  obtain ⟨i0x, a1x, n1x, c1x, d0x, m0x, e0x, d1x, m1x, e1x, d2x, m2x, e2x, rfl⟩ := At.sig_form hA
  obtain ⟨i0y, a1y, n1y, c1y, d0y, m0y, e0y, d1y, m1y, e1y, d2y, m2y, e2y, rfl⟩ := At.sig_form hB
  have hM : Hid (∀ o1 o2 t, _) := fun o1 o2 t => made2 rfl rfl hA hB o1 o2 t
  have q : Hid (∀ w v1 v2, _ → _ → _) := fun w v1 v2 h1 h2 => (ref_all n).s6 w v1 v2 [A] [B] h1 h2
  rw [Nd.eqL_one] at q
  clear hA hB
  go_enter Try.func14, Try.ntmps14
  go_wp2_with (go_at_call 37; refine (q.out _ _ _ (hM.out _ _ _).1 (hM.out _ _ _).2).mono ?_; rintro e w1 ⟨rfl, hb1⟩; have hB := bl_tr (bl_alloc (bl_alloc (bl_alloc (bl_alloc (Below.refl _ _) _) _) _) _) hb1)
  go_ret
  exact ⟨rfl, hB⟩

end Go.Proofs.Ytgiegjghldhppaa
