/- What Right and RightExp come to. -/
import Derived.Test.YtgiegjghldhppabGreatNdRZ
import Derived.Test.YtgiegjghldhppabGreatNdC
namespace Go.Proofs.YtgiegjghldhppabGreat
open Go.RowKit
set_option linter.unusedVariables false

def Nd.rightX (nd : Nd) : Int := if 100 < (nd.run ⟨0, 0, 0⟩).d then 4 else Nd.err 2 nd
theorem Mt.start1 (w : World) : Mt (w.alloc (.cells #[.int .i64 0, .int .i64 0, .int .i64 0] 60)) w.heap.size ⟨0, 0, 0⟩ := by
  refine ⟨?_, ?_, ?_, ?_, ?_, ?_⟩
  all_goals simp [go_sem]

set_option maxHeartbeats 1000000 in
set_option maxRecDepth 100000 in
theorem alone_any (n : Nat) (w : World) (b o : Nat) (vs : List Value) (nd : Nd) (hb : b < w.heap.size) (hc : Cells w b o vs) (ha : At w Any n 2 vs nd) :
    Calls Tryz.prog 47 #[.pointer (some ⟨b, o, none⟩), .func (.func 48) #[] #[], .func (.func 49) #[] #[]] w fun e w' => e = .returned (.int .i64 (Nd.rightX nd)) ∧ Below w.heap.size w w' := by
  have q : Hid (∀ ob, Mt (w.alloc ob) w.heap.size ⟨0, 0, 0⟩ → _) := fun ob hm => (meter_all n).s2 (w.alloc ob) (Old w) w.heap.size ⟨0, 0, 0⟩ b o vs nd (Nat.lt_irrefl _) hb (hc.move trivial (Keeps.of_below (K := Any) (bl_alloc (Below.refl _ _) _))) (At.move (Keeps.of_below (bl_alloc (Below.refl _ _) _)) (fun _ h => h) _ _ _ _ (At.old _ _ _ _ ha)) hm
  have r : Hid (∀ w', Below w.heap.size w w' → _) := fun w' h' => caughtExp n (right_all n).s2 w' b o vs nd (Nat.lt_of_lt_of_le hb h'.size) (hc.move trivial (Keeps.of_below (K := Any) h')) (At.move (Keeps.of_below h') (fun _ h => h) _ _ _ _ ha)
  clear hc ha hb
  by_cases hd : 100 < (nd.run ⟨0, 0, 0⟩).d
  · have H : Hid (Nd.rightX nd = 4) := by show _ = _; unfold Nd.rightX; rw [if_pos hd]
    clear r
    go_enter Tryz.func47, Tryz.ntmps47
    go_wp2_with (go_at_call 48; refine (q.out _ (Mt.start1 _)).mono ?_; rintro e w1 ⟨rfl, hm1, hs1⟩; have m1 := hm1.d; have hB : Hid (Below w.heap.size w w1) := Save.below (bl_alloc (Below.refl _ _) _) hs1 (Nat.le_refl _); clear hm1 hs1)
    go_ret
    exact ⟨ret_int H.out.symm, hB⟩
  · have H : Hid (Nd.rightX nd = Nd.err 2 nd) := by show _ = _; unfold Nd.rightX; rw [if_neg hd]
    go_enter Tryz.func47, Tryz.ntmps47
    go_wp2_with (first | (go_at_call 75; refine (r.out _ hB.out).mono ?_; rintro e w2 ⟨rfl, hb2⟩; have hB2 := bl_tr hB.out hb2) | (go_at_call 48; refine (q.out _ (Mt.start1 _)).mono ?_; rintro e w1 ⟨rfl, hm1, hs1⟩; have m1 := hm1.d; have hB : Hid (Below w.heap.size w w1) := Save.below (bl_alloc (Below.refl _ _) _) hs1 (Nat.le_refl _); clear hm1 hs1))
    go_ret
    exact ⟨ret_int H.out.symm, hB2⟩

set_option maxHeartbeats 1000000 in
set_option maxRecDepth 100000 in
theorem rightExp_any (n : Nat) (w : World) (vs : List Value) (nd : Nd) (ha : At w Any n 2 vs nd) :
    Calls Tryz.prog 19 #[.agg vs.toArray] w fun e w' => e = .returned (.int .i64 (Nd.rightX nd)) ∧ Below w.heap.size w w' := by
  have q : Hid (∀ t, Cells (w.alloc (.cells vs.toArray t)) w.heap.size 0 vs → _) := fun t hc => alone_any n (w.alloc (.cells vs.toArray t)) w.heap.size 0 vs nd (by simp) hc (At.move (Keeps.of_below (bl_alloc (Below.refl _ _) _)) (fun _ h => h) _ _ _ _ ha)
  have hc : ∀ t, Cells (w.alloc (.cells vs.toArray t)) w.heap.size 0 vs := fun t j v hv => by
    rw [World.cell?_alloc_at _ _ _ _ rfl]
    simpa using hv
  obtain ⟨i0, i1, i2, a3, n3, c3, d0, m0, e0, d1, m1, e1, d2, m2, e2, d3, m3, e3, rfl⟩ := At.exp_form ha
  have q2 := q.out _ (hc 54)
  clear q hc ha
  go_enter Tryz.func19, Tryz.ntmps19
  go_wp2_with (go_at_call 47; refine q2.mono ?_; rintro e w1 ⟨rfl, hb1⟩; have hB := bl_tr (bl_alloc (Below.refl _ _) _) hb1)
  go_ret
  exact ⟨rfl, hB⟩

/-- The number of the first one that is nested too deep. -/
def Nd.deepAt : Nat → List Nd → Option Nat
  | _, [] => none
  | k, x :: r => if 100 < (Nd.meter [x]).d then some k else Nd.deepAt (k + 1) r
/-- The number of the first one that is not right, and why. -/
def Nd.errAt : Nat → List Nd → Int × Int
  | _, [] => (0, 0)
  | k, x :: r => if Nd.err 3 x = 0 then Nd.errAt (k + 1) r else ((k : Int), Nd.err 3 x)
def Nd.rightL (l : List Nd) : Int × Int := match Nd.deepAt 0 l with
  | some k => ((k : Int), 4)
  | none => if 4096 < (Nd.meter l).a then (0, 3) else Nd.errAt 0 l
theorem Nd.rightL_deep {l : List Nd} {k : Nat} (h : Nd.deepAt 0 l = some k) : Nd.rightL l = ((k : Int), 4) := by unfold Nd.rightL; rw [h]
theorem Nd.rightL_big {l : List Nd} (h : Nd.deepAt 0 l = none) (hb : 4096 < (Nd.meter l).a) : Nd.rightL l = (0, 3) := by unfold Nd.rightL; rw [h]; exact if_pos hb
theorem Nd.rightL_err {l : List Nd} (h : Nd.deepAt 0 l = none) (hb : ¬ 4096 < (Nd.meter l).a) : Nd.rightL l = Nd.errAt 0 l := by unfold Nd.rightL; rw [h]; exact if_neg hb
theorem Nd.deepAt_at {l : List Nd} {k : Nat} {x : Nd} (hx : l[k]? = some x) (j : Nat) : Nd.deepAt j (l.drop k) = if 100 < (Nd.meter [x]).d then some j else Nd.deepAt (j + 1) (l.drop (k + 1)) := by
  obtain ⟨h1, e1⟩ := List.getElem?_eq_some_iff.1 hx
  rw [List.drop_eq_getElem_cons h1, e1, Nd.deepAt]
theorem Nd.errAt_at {l : List Nd} {k : Nat} {x : Nd} (hx : l[k]? = some x) (j : Nat) : Nd.errAt j (l.drop k) = if Nd.err 3 x = 0 then Nd.errAt (j + 1) (l.drop (k + 1)) else ((j : Int), Nd.err 3 x) := by
  obtain ⟨h1, e1⟩ := List.getElem?_eq_some_iff.1 hx
  rw [List.drop_eq_getElem_cons h1, e1, Nd.errAt]
theorem nd_ret_two {a b : Int} {p : Int × Int} (h : p = (a, b)) : Ending.returned (.tuple #[.int .i64 a, .int .i64 b]) = .returned (.tuple #[.int .i64 p.1, .int .i64 p.2]) := by rw [h]
/-- One element of a list, as a list. -/
theorem AtL.one {w : World} {n s b o c k : Nat} {l : List Nd} {x : Nd} (hk : ∀ (i : Nat) x, l[i]? = some x → ∃ vs, vs.length = Nd.size s ∧ Cells w b (o + i * Nd.size s) vs ∧ At w Any n s vs x) (hx : l[k]? = some x) (hc : 1 ≤ c) : AtL w Any n s (.slice (some ⟨b, o + k * Nd.size s, none⟩) 1 c) [x] := by
  refine .inl ⟨b, o + k * Nd.size s, c, rfl, trivial, hc, (by rw [List.length_singleton]; unfold maxLen; omega), fun i y hy => ?_⟩
  cases i with
  | zero =>
    obtain rfl : x = y := by simpa using hy
    obtain ⟨vs, h1, h2, h3⟩ := hk k x hx
    exact ⟨vs, h1, by simpa using h2, h3⟩
  | succ i => simp at hy
end Go.Proofs.YtgiegjghldhppabGreat
