/- The iterator over the lines' bounds: bounds, and the function that it hands back. -/
import Derived.RangeFuncNested
import Derived.RangeFuncBound
import Derived.RangeFuncCalls
import Derived.RangeFuncLeaves
import Derived.Shelf.Abstract
import Derived.Shelf.RegionOpen
import Derived.WalkKit
import Derived.OwnWalkIn
import Derived.TacticsInMore
import Derived.LoopNIn
import Derived.LoopIn
import Derived.Lib.IndexBytes
import Derived.Test.YtmcjcgodapkkpaaLeaf
namespace Go.Proofs.Ytmcjcgodapkkpaa
open Go.RowKit Go.Shelf
set_option linter.unusedVariables false
attribute [local go_sem] Oper.semAt_some

/-- Bounds within a text of n bytes. -/
abbrev Bd (n : Nat) := { x : Nat × Nat // x.1 ≤ x.2 ∧ x.2 ≤ n }
abbrev bdEnc {n : Nat} (x : Bd n) : Array Value := #[.int .i64 (x.1.1 : Nat), .int .i64 (x.1.2 : Nat)]
/-- The bounds of all lines of a text. -/
def Tx.lines (s : ByteArray) : List (Nat × Nat) := Tx.bnd 0 0 s.data.toList

theorem idx_none (s : ByteArray) (k : Nat) (w : World) (h : Hid (Lib.indexByte (s.data.toList.drop k) 10 < 0)) :
    Calls Try.prog 28 #[.string (s.extract k s.size), .int .u8 10] w fun e w' => e = .returned (.int .i64 (-1)) ∧ w' = w := by
  refine (indexByte_any _ _ _).mono ?_
  rintro e w' ⟨rfl, rfl⟩
  refine ⟨ret_int ?_, rfl⟩
  rw [Lib.extract_to_end]
  have := Lib.indexByte_ge (s.data.toList.drop k) 10
  have h' := h.out
  show Lib.indexByte (s.data.toList.drop k) 10 = -1
  omega

theorem idx_some (s : ByteArray) (k m : Nat) (w : World) (h : Hid (Lib.indexByte (s.data.toList.drop k) 10 = (m : Int))) :
    Calls Try.prog 28 #[.string (s.extract k s.size), .int .u8 10] w fun e w' => e = .returned (.int .i64 (m : Int)) ∧ w' = w := by
  refine (indexByte_any _ _ _).mono ?_
  rintro e w' ⟨rfl, rfl⟩
  refine ⟨ret_int ?_, rfl⟩
  rw [Lib.extract_to_end]
  exact h.out

set_option maxHeartbeats 400000 in
theorem bounds_in (n : Nat) (s : ByteArray) (w : World) :
    CallsIn Fence.wide n Try.prog 25 #[.string s] w fun e w' => e = .returned (.func (.func 27) #[] #[.pointer (some ⟨w.heap.size, 0, none⟩)]) ∧ w' = w.alloc (.cells #[.string s] 9) := by
  refine callsIn_of_wp Try.func25 rfl trivial ?_ rfl
  simp only [Try.ntmps25, List.size_toArray, List.length_cons, List.length_nil, Nat.reduceAdd, Nat.reduceSub, Array.replicate_succ, Array.replicate_zero, List.push_toArray, List.append_toArray, List.nil_append, List.cons_append]
  gi_wp2
  go_ret
  exact ⟨rfl, rfl⟩

/-- What a round must keep: the box in which the text lies. -/
def KpBox (Bn : Nat) (s : ByteArray) (W W' : World) : Prop := Boxed W Bn 9 (.string s) → Boxed W' Bn 9 (.string s)
theorem KpBox.refl (Bn : Nat) (s : ByteArray) (W : World) : KpBox Bn s W W := fun h => h
theorem KpBox.t {Bn : Nat} {s : ByteArray} {A B C : World} (h : KpBox Bn s A B) (k : KpBox Bn s B C) : KpBox Bn s A C := fun x => k (h x)
theorem KpBox.b {Bn : Nat} {s : ByteArray} {w : World} (W : World) (l : Nat) (o o' : Obj) (_ : w.heap.size ≤ l) (h : W.heap[l]? = some o) (hc : o.isCells = false) (_ : o.isWalk = false) : KpBox Bn s W (W.putObj l o') := fun x =>
  x.kept (grownBy_putObj' W l o') (fun e => by cases e; rw [show W.heap[Bn]? = _ from x] at h; cases h; cases hc)
theorem KpBox.set {Bn : Nat} {s : ByteArray} {W : World} {b : Nat} (hne : Bn ≠ b) (v : Value) : KpBox Bn s W (W.setCell ⟨b, 0, none⟩ v) := fun h => h.other hne v
theorem KpBox.of_below {Bn B : Nat} {s : ByteArray} {W W' : World} (h : Below B W W') (hlt : Bn < B) : KpBox Bn s W W' := fun x => (h.block Bn hlt).trans x

set_option maxRecDepth 100000 in
set_option maxHeartbeats 1000000 in
theorem bounds1_in (n : Nat) (hn : 1 ≤ n) (l Bn : Nat) (s : ByteArray) (hs : s.size ≤ maxLen) (J Jx : List (Bd s.size) → World → Prop)
    (hY : ∀ pre x W, J pre W → pre.length < (Tx.lines s).length → YieldAt Fence.wide (n - 1) Try.prog l (bdEnc x) W fun e W' =>
      (e = .returned (.bool true) ∧ J (pre ++ [x]) W' ∧ KpBox Bn s W W') ∨ (e = .returned (.bool false) ∧ Jx (pre ++ [x]) W'))
    (W : World) (hBn : Boxed W Bn 9 (.string s)) (h0 : J [] W) :
    CallsIn Fence.wide n Try.prog 27 #[.func (.yield l) #[] #[], .pointer (some ⟨Bn, 0, none⟩)] W fun e W' => (∃ v, e = .returned v) ∧
      ((∃ ys : List (Bd s.size), ys.map (·.1) = Tx.lines s ∧ J ys W') ∨ (∃ pre : List (Bd s.size), pre.map (·.1) <+: Tx.lines s ∧ Jx pre W')) := by
  unfold maxLen at hs
  have eL : s.data.toList.length = s.size := by rw [Array.length_toList]; rfl
  refine callsIn_of_wp Try.func27 rfl trivial ?_ rfl
  simp only [Try.ntmps27, List.size_toArray, List.length_cons, List.length_nil, Nat.reduceAdd, Nat.reduceSub, Array.replicate_succ, Array.replicate_zero, List.push_toArray, List.append_toArray, List.nil_append, List.cons_append]
  gi_wp2
  gi_loopw [3] (fun p wr => ∃ (k : Nat) (pre : List (Bd s.size)), p = .int .i64 k ∧ k ≤ s.size ∧ Hid (pre.map (·.1) ++ Tx.bnd k k (s.data.toList.drop k) = Tx.lines s) ∧ J pre wr ∧ Boxed wr Bn 9 (.string s))
    (fun p _ => s.size + 1 - (intOf p).toNat)
  case atStart =>
    exact ⟨0, [], rfl, Nat.zero_le _, rfl, h0, hBn⟩
  case round =>
    obtain ⟨k, pre, rfl, hk, hx, hJs, hbx⟩ := hrel
    have hc := hbx.cell
    by_cases hi : Lib.indexByte (s.data.toList.drop k) 10 < 0
    · have hb := Tx.bnd_none (s.data.toList.drop k) k k hi
      have hl : k + (s.data.toList.drop k).length = s.size := by simp; omega
      rw [hl] at hb
      have H : Hid (Lib.indexByte (s.data.toList.drop k) 10 < 0) := hi
      obtain ⟨fn, tmps, assign, body, hy, hR⟩ := hY pre ⟨(k, s.size), hk, Nat.le_refl _⟩ wr hJs (by rw [← hx.out, hb]; simp)
      have HX : Hid (pre.map (·.1) ++ [(k, s.size)] = Tx.lines s) := by show _ = _; rw [← hx.out, hb]
      dsimp only [bdEnc] at hy
      clear hi hb hl hx eL hY
      gi_wp2_with (refine ⟨trivial, ?_⟩; gi_at_call 28; refine (callsIn_wide.2 (idx_none s k _ H)).mono ?_; rintro e w' ⟨rfl, rfl⟩)
      refine hR.mono ?_
      rintro e W3 (⟨rfl, hJ3, hk3⟩ | ⟨rfl, hJx3⟩)
      · gi_wp2
        refine bodyPost_ret (results_none rfl _ _ _) rfl ?_
        exact ⟨⟨_, rfl⟩, .inl ⟨_, by rw [← HX.out]; simp, hJ3⟩⟩
      · gi_wp2
        refine bodyPost_ret (results_none rfl _ _ _) rfl ?_
        exact ⟨⟨_, rfl⟩, .inr ⟨_, ⟨[], by rw [← HX.out]; simp⟩, hJx3⟩⟩
    · obtain ⟨m, hm⟩ := Int.eq_ofNat_of_zero_le (Int.not_lt.1 hi)
      obtain ⟨hm1, hb⟩ := Tx.bnd_some (s.data.toList.drop k) k k m hm
      have hl : m < s.size - k := by simpa [eL] using hm1
      have H : Hid (Lib.indexByte (s.data.toList.drop k) 10 = (m : Int)) := hm
      have hle : k + m ≤ s.size := by omega
      have hge : k ≤ k + m := Nat.le_add_right _ _
      obtain ⟨fn, tmps, assign, body, hy, hR⟩ := hY pre ⟨(k, k + m), hge, hle⟩ wr hJs (by rw [← hx.out, hb]; simp)
      have HX : Hid ((pre.map (·.1) ++ [(k, k + m)]) ++ Tx.bnd (k + m + 1) (k + m + 1) (s.data.toList.drop (k + m + 1)) = Tx.lines s) := by
        show _ = _; rw [← hx.out, hb, List.drop_drop, List.append_assoc, show k + m + 1 = k + (m + 1) from by omega]; rfl
      dsimp only [bdEnc] at hy
      simp only [Int.natCast_add] at hy
      clear hi hm hm1 hb hx eL hY
      gi_wp2_with (refine ⟨trivial, ?_⟩; gi_at_call 28; refine (callsIn_wide.2 (idx_some s k m _ H)).mono ?_; rintro e w' ⟨rfl, rfl⟩)
      refine hR.mono ?_
      rintro e W3 (⟨rfl, hJ3, hk3⟩ | ⟨rfl, hJx3⟩)
      · have hb3 := hk3 hbx
        have hc3 := hb3.cell
        gi_wp2
        go_roundw
        case rel => exact ⟨k + m + 1, _, by go_num, by omega, by rw [← HX.out]; simp [Hid], hJ3, hb3⟩
        case measure => simp [intOf]; omega
      · gi_wp2
        refine bodyPost_ret (results_none rfl _ _ _) rfl ?_
        exact ⟨⟨_, rfl⟩, .inr ⟨_, ⟨Tx.bnd (k + m + 1) (k + m + 1) (s.data.toList.drop (k + m + 1)), by rw [← HX.out]; simp⟩, hJx3⟩⟩

theorem bounds_stops (n : Nat) (hn : 1 ≤ n) (Bn : Nat) (s : ByteArray) (hs : s.size ≤ maxLen) (w : World) (hc : Boxed w Bn 9 (.string s)) :
    SeqStopsK Fence.wide n Try.prog 27 #[.pointer (some ⟨Bn, 0, none⟩)] (bdEnc (n := s.size)) (KpBox Bn s) (fun ys => ys.map (·.1) = Tx.lines s) (fun pre => pre.map (·.1) <+: Tx.lines s) (Tx.lines s).length w := fun l J Jx W hW _ _ hY h0 =>
  bounds1_in n hn l Bn s hs J Jx hY W ((hW.block Bn hc.lt).trans hc) h0

end Go.Proofs.Ytmcjcgodapkkpaa
