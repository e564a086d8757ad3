/- Pieces: NdE NdS NdM0. -/
import Derived.Test.YtjebepnphoeiaabGreatDoorQab
namespace Go.Proofs.YtjebepnphoeiaabGreatDoor
open Go.RowKit
set_option linter.unusedVariables false

set_option maxHeartbeats 1000000 in
theorem refTexts_any (a b : Value) (xs ys : List ByteArray) (w : World) (ha : Strs w a xs) (hb : Strs w b ys) (hx : xs.length ≤ maxLen) (hy : ys.length ≤ maxLen) :
  Calls Tryz.prog 25 #[a, b] w fun e w' => e = .returned (.bool (decide (xs = ys))) ∧ ∃ n, w' = w.drewN n := by
 unfold maxLen at hx hy
 by_cases hl : xs.length = ys.length
 ·
  rcases ha with ⟨b1, o1, c1, rfl, hc1⟩ | ⟨rfl, p, c, rfl⟩
  ·
   rcases hb with ⟨b2, o2, c2, rfl, hc2⟩ | ⟨rfl, p, c, rfl⟩
   ·
    go_enter Tryz.func25, Tryz.ntmps25
    go_wp2
    go_loopw [5] (fun v wr => ∃ k : Nat, v = .int .i64 k ∧ k ≤ xs.length ∧ Hid (∀ j, j < k → xs[j]? = ys[j]?) ∧ ∃ n, wr = w.drewN n) (fun v _ => xs.length - (intOf v).toNat)
    case atStart => exact ⟨0, rfl, Nat.zero_le _, fun j h => absurd h (Nat.not_lt_zero _), 0, rfl⟩
    case round =>
     obtain ⟨k, rfl, hk, hall, n, rfl⟩ := hrel
     by_cases hlt : k < xs.length
     ·
      obtain ⟨x, hxk⟩ : ∃ x, xs[k]? = some x := ⟨_, List.getElem?_eq_getElem hlt⟩
      obtain ⟨y, hyk⟩ : ∃ y, ys[k]? = some y := ⟨_, List.getElem?_eq_getElem (by omega)⟩
      have d1 := hc1 k x hxk
      have d2 := hc2 k y hyk
      have hlt2 : k < ys.length := by omega
      by_cases he : x = y
      ·
       subst he
       have HX : Hid (∀ j, j < k + 1 → xs[j]? = ys[j]?) := fun j hj => by
        by_cases e : j = k
        ·
         subst e; rw [hxk, hyk]
        ·
         exact hall.out j (by omega)
       have h3 : (x.toList == x.toList) = true := beq_self_eq_true _
       have HL : Hid (xs.length = ys.length) := hl
       clear hall hxk hyk hc1 hc2 hl
       go_wp2
       go_quiet (fail)
       go_wp2
       go_roundw
       case rel => exact ⟨k + 1, by go_num, by omega, HX, _, rfl⟩
       case measure => simp [intOf]; omega
      ·
       have HX : Hid (decide (xs = ys) = false) := by
        show _ = _
        rw [decide_eq_false]
        intro e; rw [e, hyk] at hxk; exact he (Option.some.inj hxk).symm
       have h3 : (x.toList == y.toList) = false := by rw [Nm.str_eq, decide_eq_false he]
       clear hall hxk hyk hc1 hc2 hl he
       go_wp2
       go_quiet (fail)
       go_wp2
       go_ret
       exact ⟨ret_bool HX.out.symm, _, World.drewN_drewN _ _ _⟩
     ·
      have HX : Hid (decide (xs = ys) = true) := by
       show _ = _
       rw [decide_eq_true]
       apply List.ext_getElem?
       intro j
       by_cases hj : j < k
       ·
        exact hall.out j hj
       ·
        rw [List.getElem?_eq_none (by omega), List.getElem?_eq_none (by omega)]
      clear hall hc1 hc2
      go_wp2
      go_ret
      exact ⟨ret_bool HX.out.symm, n, rfl⟩
   ·
    have : xs = [] := List.eq_nil_of_length_eq_zero (by simpa using hl)
    subst this
    go_enter Tryz.func25, Tryz.ntmps25
    go_wp2
    go_loop [5] (fun v => v = .int .i64 0) (fun v => 0)
    case atStart => rfl
    case round =>
     subst hrel
     go_wp2
     go_ret
     exact ⟨rfl, 0, rfl⟩
  ·
   have : ys = [] := List.eq_nil_of_length_eq_zero (by simpa using hl.symm)
   subst this
   obtain ⟨p2, c2, rfl⟩ : ∃ p2 c2, b = .slice p2 0 c2 := by
    rcases hb with ⟨b2, o2, c2, rfl, hc2⟩ | ⟨_, p, c, rfl⟩
    ·
     exact ⟨_, _, rfl⟩
    ·
     exact ⟨_, _, rfl⟩
   go_enter Tryz.func25, Tryz.ntmps25
   go_wp2
   go_loop [5] (fun v => v = .int .i64 0) (fun v => 0)
   case atStart => rfl
   case round =>
    subst hrel
    go_wp2
    go_ret
    exact ⟨rfl, 0, rfl⟩
 ·
  obtain ⟨p1, c1, rfl⟩ : ∃ p1 c1, a = .slice p1 xs.length c1 := by
   rcases ha with ⟨b2, o2, c2, rfl, hc2⟩ | ⟨rfl, p, c, rfl⟩
   ·
    exact ⟨_, _, rfl⟩
   ·
    exact ⟨_, _, rfl⟩
  obtain ⟨p2, c2, rfl⟩ : ∃ p2 c2, b = .slice p2 ys.length c2 := by
   rcases hb with ⟨b2, o2, c2, rfl, hc2⟩ | ⟨rfl, p, c, rfl⟩
   ·
    exact ⟨_, _, rfl⟩
   ·
    exact ⟨_, _, rfl⟩
  have H : Hid (decide (xs = ys) = false) := by
   show _ = _
   rw [decide_eq_false]
   intro e; exact hl (by rw [e])
  have hl' : ((xs.length : Int) == (ys.length : Int)) = false := by rw [beq_eq_false_iff_ne]; omega
  clear hl
  go_enter Tryz.func25, Tryz.ntmps25
  go_wp2
  go_ret
  exact ⟨ret_bool H.out.symm, 0, rfl⟩



abbrev Any : Nat → Prop := fun _ => True
noncomputable def Nd.eq (a b : Nd) : Bool := @decide (a = b) (Classical.propDecidable _)
noncomputable def Nd.eqL (a b : List Nd) : Bool := @decide (a = b) (Classical.propDecidable _)
theorem Nd.eq_true {a b : Nd} : Nd.eq a b = true ↔ a = b := by unfold Nd.eq; exact @decide_eq_true_iff _ (Classical.propDecidable _)
theorem Nd.eqL_true {a b : List Nd} : Nd.eqL a b = true ↔ a = b := by unfold Nd.eqL; exact @decide_eq_true_iff _ (Classical.propDecidable _)
theorem Nd.eqL_nil : Nd.eqL [] [] = true := Nd.eqL_true.2 rfl
theorem Nd.eqL_cons (a b : Nd) (xs ys : List Nd) : Nd.eqL (a :: xs) (b :: ys) = (Nd.eq a b && Nd.eqL xs ys) := by
 rw [Bool.eq_iff_iff, Bool.and_eq_true, Nd.eqL_true, Nd.eqL_true, Nd.eq_true, List.cons.injEq]
theorem Nd.eqL_len {xs ys : List Nd} (h : xs.length ≠ ys.length) : Nd.eqL xs ys = false := by
 rw [Bool.eq_false_iff]
 intro e
 rw [Nd.eqL_true] at e
 exact h (by rw [e])
theorem Nd.eqL_at {xs ys : List Nd} {k : Nat} {x y : Nd} (hx : xs[k]? = some x) (hy : ys[k]? = some y) : Nd.eqL (xs.drop k) (ys.drop k) = (Nd.eq x y && Nd.eqL (xs.drop (k + 1)) (ys.drop (k + 1))) := by
 obtain ⟨h1, e1⟩ := List.getElem?_eq_some_iff.1 hx
 obtain ⟨h2, e2⟩ := List.getElem?_eq_some_iff.1 hy
 rw [List.drop_eq_getElem_cons h1, List.drop_eq_getElem_cons h2, e1, e2, Nd.eqL_cons]

theorem len2 {l : List Value} (h : l.length = 2) : ∃ a b, l = [a, b] := by match l, h with | [a, b], _ => exact ⟨a, b, rfl⟩
theorem len4 {l : List Value} (h : l.length = 4) : ∃ a b c d, l = [a, b, c, d] := by match l, h with | [a, b, c, d], _ => exact ⟨a, b, c, d, rfl⟩
theorem len5 {l : List Value} (h : l.length = 5) : ∃ a b c d e, l = [a, b, c, d, e] := by match l, h with | [a, b, c, d, e], _ => exact ⟨a, b, c, d, e, rfl⟩
theorem len6 {l : List Value} (h : l.length = 6) : ∃ a b c d e f, l = [a, b, c, d, e, f] := by match l, h with | [a, b, c, d, e, f], _ => exact ⟨a, b, c, d, e, f, rfl⟩
theorem len8 {l : List Value} (h : l.length = 8) : ∃ a b c d e f g i, l = [a, b, c, d, e, f, g, i] := by match l, h with | [a, b, c, d, e, f, g, i], _ => exact ⟨a, b, c, d, e, f, g, i, rfl⟩
theorem len9 {l : List Value} (h : l.length = 9) : ∃ a b c d e f g i j, l = [a, b, c, d, e, f, g, i, j] := by match l, h with | [a, b, c, d, e, f, g, i, j], _ => exact ⟨a, b, c, d, e, f, g, i, j, rfl⟩
theorem bl_alloc {w w1 : World} (h : Below w.heap.size w w1) (o : Obj) : Below w.heap.size w (w1.alloc o) := h.alloc h.size o
theorem bl_tr {w w1 w2 : World} (h : Below w.heap.size w w1) (h2 : Below w1.heap.size w1 w2) : Below w.heap.size w w2 := h.trans (h2.mono h.size)
theorem bl_drewN (w : World) (n : Nat) : Below w.heap.size w (w.drewN n) := by
 induction n with
 | zero => exact Below.refl _ _
 | succ k ih => exact ih.drew
structure Fr (w wc : World) (va vb : List Value) : Prop where
 bl : Below w.heap.size w wc
 sz : w.heap.size + 1 < wc.heap.size
 a : ∀ (j : Nat) v, va[j]? = some v → wc.cell? ⟨w.heap.size, j, none⟩ = some v
 b : ∀ (j : Nat) v, vb[j]? = some v → wc.cell? ⟨w.heap.size + 1, j, none⟩ = some v
theorem Fr.start (w : World) (va vb : List Value) (t : TypeId) : Fr w ((w.alloc (.cells va.toArray t)).alloc (.cells vb.toArray t)) va vb := by
 refine ⟨bl_alloc (bl_alloc (Below.refl _ _) _) _, by simp, fun j v hv => ?_, fun j v hv => ?_⟩
 ·
  rw [World.cell?_alloc2_first]
  simpa using hv
 ·
  rw [World.cell?_alloc_at _ _ _ _ (by simp)]
  simpa using hv
theorem Fr.step {w wc w1 : World} {va vb : List Value} (h : Fr w wc va vb) (hb : Below wc.heap.size wc w1) : Fr w w1 va vb :=
 ⟨bl_tr h.bl hb, Nat.lt_of_lt_of_le h.sz hb.size, fun j v hv => (hb.cell (show w.heap.size < _ by have := h.sz; omega)).trans (h.a j v hv), fun j v hv => (hb.cell (show w.heap.size + 1 < _ from h.sz)).trans (h.b j v hv)⟩
theorem Fr.atl {w wc : World} {va vb : List Value} (h : Fr w wc va vb) {n s : Nat} {v : Value} {l : List Nd} (hl : AtL w Any n s v l) : AtL wc Any n s v l := hl.below h.bl
theorem Fr.tx {w wc : World} {va vb : List Value} (h : Fr w wc va vb) {v : Value} {l : List ByteArray} (hl : Tx w Any v l) : Strs wc v l := (hl.move (Keeps.of_below h.bl) (fun _ h => h)).strs
def SameOf (f : FuncId) (n s : Nat) : Prop := ∀ (w : World) (va vb : List Value) (A B : Nd), At w Any n s va A → At w Any n s vb B →
 Calls Tryz.prog f #[.agg va.toArray, .agg vb.toArray] w fun e w' => e = .returned (.bool (Nd.eq A B)) ∧ Below w.heap.size w w'
def SameLOf (f : FuncId) (g : Value) (n s : Nat) : Prop := ∀ (w : World) (v1 v2 : Value) (xs ys : List Nd), AtL w Any n s v1 xs → AtL w Any n s v2 ys →
 Calls Tryz.prog f #[v1, v2, g] w fun e w' => e = .returned (.bool (Nd.eqL xs ys)) ∧ Below w.heap.size w w'



















structure Mst where
 a : Int
 d : Int
 t : Int
def Mst.enter (s : Mst) : Mst := ⟨wrap64 (s.a + 1), max s.d (wrap64 (s.t + 1)), wrap64 (s.t + 1)⟩
def Mst.leave (s : Mst) : Mst := ⟨s.a, s.d, wrap64 (s.t - 1)⟩
mutual
def Nd.run : Nd → Mst → Mst
 | .mk _ ks => fun s => (Nd.runLL ks s.enter).leave
def Nd.runLL : List (List Nd) → Mst → Mst
 | [] => fun s => s
 | l :: r => fun s => Nd.runLL r (Nd.runL l s)
def Nd.runL : List Nd → Mst → Mst
 | [] => fun s => s
 | x :: r => fun s => Nd.runL r (Nd.run x s)
end
structure Mt (w : World) (M : Nat) (s : Mst) : Prop where
 a : w.cell? ⟨M, 0, none⟩ = some (.int .i64 s.a)
 d : w.cell? ⟨M, 1, none⟩ = some (.int .i64 s.d)
 t : w.cell? ⟨M, 2, none⟩ = some (.int .i64 s.t)
 fa : w.frozen? ⟨M, 0, none⟩ = false
 fd : w.frozen? ⟨M, 1, none⟩ = false
 ft : w.frozen? ⟨M, 2, none⟩ = false
structure Save (M : Nat) (w w' : World) : Prop where
 os : w'.os = w.os
 tape : w'.tape = w.tape
 output : w'.output = w.output
 size : w'.heap.size = w.heap.size
 block : ∀ k, k ≠ M → w'.heap[k]? = w.heap[k]?
theorem Save.refl (M : Nat) (w : World) : Save M w w := ⟨rfl, rfl, rfl, rfl, fun _ _ => rfl⟩
theorem Save.trans {M : Nat} {a b c : World} (h : Save M a b) (k : Save M b c) : Save M a c :=
 ⟨k.os.trans h.os, k.tape.trans h.tape, k.output.trans h.output, k.size.trans h.size, fun i hi => (k.block i hi).trans (h.block i hi)⟩
theorem Save.drew {M : Nat} {a w : World} (h : Save M a w) : Save M a w.drew := ⟨h.os, h.tape, h.output, h.size, h.block⟩
theorem Save.set {M : Nat} {a w : World} (h : Save M a w) (j : Nat) (u : Value) : Save M a (w.setCell ⟨M, j, none⟩ u) :=
 h.trans ⟨rfl, rfl, rfl, by simp [World.setCell], fun k hk => Below.heap_setCell _ _ _ _ hk⟩
theorem Save.cell {M : Nat} {w w' : World} (h : Save M w w') {p : Addr} (hp : p.block ≠ M) : w'.cell? p = w.cell? p := World.cell?_of_block (w := w) (h.block p.block hp)
theorem Save.below {M B : Nat} {a w w' : World} (hb : Below B a w) (h : Save M w w') (hM : B ≤ M) : Below B a w' :=
 hb.trans ⟨h.os, h.tape, h.output, Nat.le_of_eq h.size.symm, fun k hk => h.block k (by omega)⟩
theorem Keeps.of_save {K : Nat → Prop} {M : Nat} {w w' : World} (h : Save M w w') (hK : ¬ K M) : Keeps K w w' := fun b o v hb hv => (h.cell (fun e => hK (by rw [← (show b = M from e)]; exact hb))).trans hv

set_option maxHeartbeats 1000000 in
theorem enter_any (M : Nat) (s : Mst) (w : World) (h : Mt w M s) : Calls Tryz.prog 42 #[.pointer (some ⟨M, 0, none⟩)] w fun e w' => e = .returned (.tuple #[]) ∧ Mt w' M s.enter ∧ Save M w w' := by
 obtain ⟨a, d, t⟩ := s
 obtain ⟨h0, h1, h2, f0, f1, f2⟩ := h
 simp only at h0 h1 h2
 go_enter Tryz.func42, Tryz.ntmps42
 go_wp2
 go_region
 go_wp2
 go_end0
 refine ⟨rfl, ⟨?_, ?_, ?_, ?_, ?_, ?_⟩, ((((Save.refl _ _).set _ _).set _ _).set _ _).drew⟩
 all_goals simp [go_sem, h0, h1, h2, f0, f1, f2, Mst.enter]

theorem leave_any (M : Nat) (s : Mst) (w : World) (h : Mt w M s) : Calls Tryz.prog 50 #[.pointer (some ⟨M, 0, none⟩)] w fun e w' => e = .returned (.tuple #[]) ∧ Mt w' M s.leave ∧ Save M w w' := by
 obtain ⟨a, d, t⟩ := s
 obtain ⟨h0, h1, h2, f0, f1, f2⟩ := h
 simp only at h0 h1 h2
 go_enter Tryz.func50, Tryz.ntmps50
 go_wp2
 go_end0
 refine ⟨rfl, ⟨?_, ?_, ?_, ?_, ?_, ?_⟩, (Save.refl _ _).set _ _⟩
 all_goals simp [go_sem, h0, h1, h2, f0, f1, f2, Mst.leave]
end Go.Proofs.YtjebepnphoeiaabGreatDoor
