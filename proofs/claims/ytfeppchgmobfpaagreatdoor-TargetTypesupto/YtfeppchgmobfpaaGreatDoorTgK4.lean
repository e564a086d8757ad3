/- What the putter finds, binds; stands, renumbered. -/
import Derived.Test.YtfeppchgmobfpaaGreatDoorTgK3
namespace Go.Proofs.YtfeppchgmobfpaaGreatDoor
open Go.RowKit
set_option linter.unusedVariables false
set_option linter.unusedSimpArgs false

theorem Tt.len_le (L : List Tt) : L.length ≤ Tt.cntL L := by
  induction L with
  | nil => exact Nat.zero_le _
  | cons x r ih => rw [Tt.cntL, List.length_cons]; have := x.cnt_pos; omega
theorem Pt.good {N M : Nat} {num : Int} {u : Tt} {C : Int → Bool} {l : List Int} {w : World} {own : Nat → Prop} {e : List (Int × Int)} {nx : Int} {n : Nat} (h : Pt N M num u C l w own e nx n) : ∀ p ∈ e, R64 p.1 ∧ R64 p.2 := by
  obtain ⟨vs, mv, lv, h1, -⟩ := h.walk
  exact h1.scp.good
theorem findP (N M : Nat) (num : Int) (u : Tt) (C : Int → Bool) (l : List Int) (w : World) (own : Nat → Prop) (e : List (Int × Int)) (nx : Int) (n : Nat) (x : Int) (hx : R64 x) (h : Pt N M num u C l w own e nx n) : Calls Tryz.prog 102 #[.pointer (some ⟨M, 2, none⟩), .int .i64 x] w fun r w' => r = .returned (.tuple #[.int .i64 ((lk e x).getD 0), .bool (lk e x).isSome]) ∧ w' = w := by
  obtain ⟨vs, mv, lv, h1, -⟩ := h.walk
  exact find_any w M (0 + 2) (M + 1) PT vs mv lv e n x hx h1.arr h1.m h1.scp
theorem depthP (N M : Nat) (num : Int) (u : Tt) (C : Int → Bool) (l : List Int) (w : World) (own : Nat → Prop) (e : List (Int × Int)) (nx : Int) (n : Nat) (h : Pt N M num u C l w own e nx n) : Calls Tryz.prog 95 #[.pointer (some ⟨M, 2, none⟩)] w fun r w' => r = .returned (.int .i64 e.length) ∧ w' = w := by
  obtain ⟨vs, mv, lv, h1, -⟩ := h.walk
  obtain ⟨la, lc, rfl⟩ := h1.scp.form
  exact depth_any w M (0 + 2) PT vs la _ lc h1.arr h1.l
theorem bindP (N M : Nat) (num : Int) (u : Tt) (C : Int → Bool) (l : List Int) (w : World) (own : Nat → Prop) (e : List (Int × Int)) (nx : Int) (n : Nat) (x y : Int) (hx : R64 x) (hy : R64 y) (h : Pt N M num u C l w own e nx n) (hn : n < 4611686018427387904) (he : e.length < 1099511627776) : Calls Tryz.prog 129 #[.pointer (some ⟨M, 2, none⟩), .int .i64 x, .int .i64 y] w fun r w' => r = .returned (.tuple #[]) ∧ ∃ own', Pt N M num u C l w' own' ((x, y) :: e) nx (n + 1) ∧ Ev own w own' w' := by
  obtain ⟨vs, mv, lv, h1, -, h2⟩ := h.walk
  refine (bind_any w M (0 + 2) (M + 1) PT vs mv lv e n x y hx hy h1.arr h1.m h1.l h1.scp h1.lt h1.le hn he).mono ?_
  rintro r w' ⟨rfl, mv', lv', a, s, ev⟩
  exact ⟨rfl, h2 w' _ mv' lv' _ _ rfl (h1.next a s ev.size) ev⟩
theorem backP (N M : Nat) (num : Int) (u : Tt) (C : Int → Bool) (l : List Int) (w : World) (own : Nat → Prop) (e : List (Int × Int)) (nx : Int) (n d : Nat) (h : Pt N M num u C l w own e nx n) (hn : n + e.length < 4611686018427387904) (hd : d ≤ e.length) : Calls Tryz.prog 97 #[.pointer (some ⟨M, 2, none⟩), .int .i64 d] w fun r w' => r = .returned (.tuple #[]) ∧ ∃ own', Pt N M num u C l w' own' (e.drop (e.length - d)) nx (n + e.length) ∧ Ev own w own' w' := by
  obtain ⟨vs, mv, lv, h1, -, h2⟩ := h.walk
  refine (back_any w M (0 + 2) (M + 1) PT vs mv lv e n d h1.arr h1.m h1.l h1.scp h1.lt hn hd).mono ?_
  rintro r w' ⟨rfl, lv', a, s, ev⟩
  have a' : Arr w' M PT ((vs.set (0 + 2) mv).set (0 + 2 + 1) lv') := by rw [set_same h1.m]; exact a
  exact ⟨rfl, h2 w' _ mv lv' _ _ rfl (h1.next a' s ev.size) ev⟩
theorem Pt.byc {N M : Nat} {num : Int} {u : Tt} {C : Int → Bool} {l : List Int} {w : World} {own : Nat → Prop} {e : List (Int × Int)} {nx : Int} {n : Nat} (h : Pt N M num u C l w own e nx n) : ∃ x y a' c' m' a c m kb, w.cell? ⟨M, 7, none⟩ = some (.int .i64 x) ∧ w.cell? ⟨M, 8, none⟩ = some (.int .i64 y) ∧ w.cell? ⟨M, 9, none⟩ = some (.slice a' m' c') ∧ w.cell? ⟨M, 10, none⟩ = some (.slice a m c) ∧ TAt w (fun b => b < N) kb [.int .i64 x, .int .i64 y, .slice a' m' c', .slice a m c] u := by
  obtain ⟨⟨vs, mv, lv, Cc, Ct, ub, kb, h1, h2, h3, h4, -⟩, -⟩ := h
  obtain ⟨a', c', a, c, rfl⟩ := h4.form
  exact ⟨_, _, _, _, _, _, _, _, kb, (h1.arr.cell 7).trans (h3 0 _ rfl), (h1.arr.cell 8).trans (h3 1 _ rfl), (h1.arr.cell 9).trans (h3 2 _ rfl), (h1.arr.cell 10).trans (h3 3 _ rfl), h4⟩
end Go.Proofs.YtfeppchgmobfpaaGreatDoor
