/- The iterator of strings.SplitSeq at one point: it hands over the pieces, one after another. -/
import Derived.Test.YtcccmbiocknknaaDoorSplit0
namespace Go.Proofs.YtcccmbiocknknaaDoor
open Go.RowKit Go.Shelf
set_option linter.unusedVariables false
attribute [local go_sem] Oper.semAt_some

/-- What a round must keep: the iterator's three boxes. -/
def KpS (Bs Bp Bn : Nat) (W W' : World) : Prop := (∀ v, Boxed W Bs 9 v → Boxed W' Bs 9 v) ∧ (∀ v, Boxed W Bp 9 v → Boxed W' Bp 9 v) ∧ (∀ v, Boxed W Bn 3 v → Boxed W' Bn 3 v)
theorem KpS.refl (Bs Bp Bn : Nat) (W : World) : KpS Bs Bp Bn W W := ⟨fun _ h => h, fun _ h => h, fun _ h => h⟩
theorem KpS.t {Bs Bp Bn : Nat} {A B C : World} (h : KpS Bs Bp Bn A B) (k : KpS Bs Bp Bn B C) : KpS Bs Bp Bn A C := ⟨fun v x => k.1 v (h.1 v x), fun v x => k.2.1 v (h.2.1 v x), fun v x => k.2.2 v (h.2.2 v x)⟩
theorem KpS.b1 {W : World} {l B : Nat} {t : TypeId} {o o' : Obj} (h : W.heap[l]? = some o) (hc : o.isCells = false) (v : Value) (x : Boxed W B t v) : Boxed (W.putObj l o') B t v :=
  x.kept (grownBy_putObj' W l o') (fun e => by rw [← (Option.some.inj e : B = l), show W.heap[B]? = _ from x] at h; cases h; cases hc)
theorem KpS.b {Bs Bp Bn : Nat} {w : World} (W : World) (l : Nat) (o o' : Obj) (_ : w.heap.size ≤ l) (h : W.heap[l]? = some o) (hc : o.isCells = false) (_ : o.isWalk = false) : KpS Bs Bp Bn W (W.putObj l o') :=
  ⟨fun v x => KpS.b1 h hc v x, fun v x => KpS.b1 h hc v x, fun v x => KpS.b1 h hc v x⟩
theorem KpS.set {Bs Bp Bn : Nat} {W : World} {b : Nat} (h1 : Bs ≠ b) (h2 : Bp ≠ b) (h3 : Bn ≠ b) (v : Value) : KpS Bs Bp Bn W (W.setCell ⟨b, 0, none⟩ v) := ⟨fun _ h => h.other h1 v, fun _ h => h.other h2 v, fun _ h => h.other h3 v⟩
theorem KpS.of_below {Bs Bp Bn B : Nat} {W W' : World} (h : Below B W W') (h1 : Bs < B) (h2 : Bp < B) (h3 : Bn < B) : KpS Bs Bp Bn W W' :=
  ⟨fun _ x => (h.block _ h1).trans x, fun _ x => (h.block _ h2).trans x, fun _ x => (h.block _ h3).trans x⟩

/-- How long the text is that lies in a box. -/
def boxLen (W : World) (B : Nat) : Nat := match W.cell? ⟨B, 0, none⟩ with
  | some (.string t) => t.size
  | _ => 0
theorem boxLen_eq {W : World} {B : Nat} {t : TypeId} {s : ByteArray} (h : Boxed W B t (.string s)) : boxLen W B = s.size := by unfold boxLen; rw [h.cell]

set_option maxRecDepth 100000 in
set_option maxHeartbeats 1000000 in
theorem iter_in (n : Nat) (hn : 1 ≤ n) (l Bs Bp Bn : Nat) (hnp : Bp ≠ Bs) (hnn : Bn ≠ Bs) (s : ByteArray) (hs : s.size ≤ maxLen) (J Jx : List ByteArray → World → Prop)
    (hT : ∀ pre A B, J pre A → A.grownBy B (some Bs) → J pre B)
    (hY : ∀ pre x W, J pre W → pre.length < (Nm.pieces s).length → YieldAt Fence.wide (n - 1) Tryd.prog l #[.string x] W fun e W' =>
      (e = .returned (.bool true) ∧ J (pre ++ [x]) W' ∧ KpS Bs Bp Bn W W') ∨ (e = .returned (.bool false) ∧ Jx (pre ++ [x]) W'))
    (W : World) (hb1 : Boxed W Bs 9 (.string s)) (hb2 : Boxed W Bp 9 (.string ⟨#[46]⟩)) (hb3 : Boxed W Bn 3 (.int .i64 0)) (h0 : J [] W) :
    CallsIn Fence.wide n Tryd.prog 77 #[.func (.yield l) #[] #[], .pointer (some ⟨Bp, 0, none⟩), .pointer (some ⟨Bs, 0, none⟩), .pointer (some ⟨Bn, 0, none⟩)] W fun e W' => (∃ v, e = .returned v) ∧
      ((∃ ys, ys = Nm.pieces s ∧ J ys W') ∨ (∃ pre, pre <+: Nm.pieces s ∧ Jx pre W')) := by
  unfold maxLen at hs
  refine callsIn_of_wp Tryd.func77 rfl trivial ?_ rfl
  simp only [Tryd.ntmps77, List.size_toArray, List.length_cons, List.length_nil, Nat.reduceAdd, Nat.reduceSub, Array.replicate_succ, Array.replicate_zero, List.push_toArray, List.append_toArray, List.nil_append, List.cons_append]
  have c2 := hb2.cell
  gi_wp2
  gi_loopw [7] (fun _ wr => ∃ (t : ByteArray) (pre : List ByteArray), Boxed wr Bs 9 (.string t) ∧ Boxed wr Bp 9 (.string ⟨#[46]⟩) ∧ Boxed wr Bn 3 (.int .i64 0) ∧ t.size ≤ s.size ∧ Hid (pre ++ Nm.pieces t = Nm.pieces s) ∧ J pre wr)
    (fun _ wr => boxLen wr Bs)
  case atStart =>
    exact ⟨s, [], hb1, hb2, hb3, Nat.le_refl _, rfl, h0⟩
  case round =>
    obtain ⟨t, pre, b1, b2, b3, ht, hx, hJ⟩ := hrel
    clear c2 hb1 hb2 hb3 h0
    have d1 := b1.cell
    have d2 := b2.cell
    have d3 := b3.cell
    have f1 := b1.frozen
    have ebl : boxLen wr Bs = t.size := boxLen_eq b1
    by_cases hi : Lib.indexByte t.data.toList 46 < 0
    · have H : Hid (Lib.indexByte t.data.toList 46 < 0) := hi
      have HX : Hid (pre ++ [t] = Nm.pieces s) := by show _ = _; rw [← hx.out, Nm.pieces_none hi]
      obtain ⟨fn, tmps, assign, body, hy, hR⟩ := hY pre t wr hJ (by rw [← HX.out]; simp)
      clear hi hx hY
      gi_wp2_with (refine ⟨trivial, ?_⟩; gi_at_call 79; refine (callsIn_wide.2 (index_lt H)).mono ?_; rintro e w' ⟨rfl, rfl⟩)
      refine hR.mono ?_
      rintro e W3 (⟨rfl, hJ3, hk3⟩ | ⟨rfl, hJx3⟩)
      · gi_wp2
        refine bodyPost_end (results_none rfl _ _ _) rfl ?_
        exact ⟨⟨_, rfl⟩, .inl ⟨_, HX.out, hJ3⟩⟩
      · gi_wp2
        refine bodyPost_end (results_none rfl _ _ _) rfl ?_
        exact ⟨⟨_, rfl⟩, .inr ⟨_, ⟨[], by rw [← HX.out]; simp⟩, hJx3⟩⟩
    · obtain ⟨m, hm⟩ := Int.eq_ofNat_of_zero_le (Int.not_lt.1 hi)
      have H : Hid (Lib.indexByte t.data.toList 46 = (m : Int)) := hm
      have hlt : m < t.size := by have := (Nm.index_some hm).1; rwa [Nm.len] at this
      have HX : Hid ((pre ++ [t.extract 0 m]) ++ Nm.pieces (t.extract (m + 1) t.size) = Nm.pieces s) := by show _ = _; rw [← hx.out, Nm.pieces_some hm]; simp
      obtain ⟨fn, tmps, assign, body, hy, hR⟩ := hY pre (t.extract 0 m) wr hJ (by rw [← HX.out]; simp)
      clear hi hm hx hY
      gi_wp2_with (refine ⟨trivial, ?_⟩; gi_at_call 79; refine (callsIn_wide.2 (index_at H)).mono ?_; rintro e w' ⟨rfl, rfl⟩)
      refine hR.mono ?_
      rintro e W3 (⟨rfl, hJ3, hk3⟩ | ⟨rfl, hJx3⟩)
      · have e1 := hk3.1 _ b1
        have e2 := hk3.2.1 _ b2
        have e3 := hk3.2.2 _ b3
        have g1 := e1.cell
        have g2 := e2.cell
        have g3 := e3.cell
        have j1 := e1.frozen
        clear d1 d2 d3 f1
        gi_wp2
        go_roundw
        case rel =>
          refine ⟨t.extract (m + 1) t.size, _, e1.set _, e2.other hnp _, e3.other hnn _, ?_, HX, hT _ _ _ hJ3 (grownBy_setCell' _ _ _)⟩
          rw [ByteArray.size_extract]; omega
        case measure =>
          rw [ebl, boxLen_eq (e1.set _), ByteArray.size_extract]; omega
      · gi_wp2
        refine bodyPost_ret (results_none rfl _ _ _) rfl ?_
        exact ⟨⟨_, rfl⟩, .inr ⟨_, ⟨Nm.pieces (t.extract (m + 1) t.size), by rw [← HX.out]⟩, hJx3⟩⟩

theorem iter_seq (n : Nat) (hn : 1 ≤ n) (Bs Bp Bn : Nat) (hnp : Bp ≠ Bs) (hnn : Bn ≠ Bs) (s : ByteArray) (hs : s.size ≤ maxLen) (w : World) (hb1 : Boxed w Bs 9 (.string s)) (hb2 : Boxed w Bp 9 (.string ⟨#[46]⟩)) (hb3 : Boxed w Bn 3 (.int .i64 0)) :
    SeqBox Fence.wide n Tryd.prog 77 #[.pointer (some ⟨Bp, 0, none⟩), .pointer (some ⟨Bs, 0, none⟩), .pointer (some ⟨Bn, 0, none⟩)] (fun x : ByteArray => #[Value.string x]) Bs (KpS Bs Bp Bn) (fun ys => ys = Nm.pieces s) (fun pre => pre <+: Nm.pieces s) (Nm.pieces s).length w := fun l J Jx W hW hT hY h0 =>
  iter_in n hn l Bs Bp Bn hnp hnn s hs J Jx hT hY W ((hW.block Bs hb1.lt).trans hb1) ((hW.block Bp hb2.lt).trans hb2) ((hW.block Bn hb3.lt).trans hb3) h0
end Go.Proofs.YtcccmbiocknknaaDoor
