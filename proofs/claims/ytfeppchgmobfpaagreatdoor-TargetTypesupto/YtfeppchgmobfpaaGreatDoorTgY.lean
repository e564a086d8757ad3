/- What the statements make by themselves: v, fn, all; the chapter's examples as mathematics. -/
import Derived.Test.YtfeppchgmobfpaaGreatDoorTgV
import Derived.Test.YtfeppchgmobfpaaGreatDoorTgS2
import Derived.Test.YtfeppchgmobfpaaGreatDoorTgK8
import Derived.Test.YtfeppchgmobfpaaGreatDoorTgW5
namespace Go.Proofs.YtfeppchgmobfpaaGreatDoor
open Go.RowKit
set_option linter.unusedVariables false
set_option linter.unusedSimpArgs false

theorem TAt.leaf (w : World) (K : Nat → Prop) (k n : Int) (hk : R64 k) (hn : R64 n) : TAt w K 1 [.int .i64 k, .int .i64 n, .slice none 0 0, .slice none 0 0] (.mk k n [] []) := ⟨_, _, rfl, hk, hn, .inr ⟨rfl, _, _, rfl⟩, .inr ⟨rfl, _, _, rfl⟩⟩
theorem v_any (w : World) (n : Int) : Calls Tryz.prog 37 #[.int .i64 n] w fun e w' => e = .returned (.agg #[.int .i64 6, .int .i64 n, .slice none 0 0, .slice none 0 0]) ∧ Below w.heap.size w w' := by
  go_enter Tryz.func37, Tryz.ntmps37
  go_wp2
  refine bodyPost_ret (v := .agg #[.int .i64 6, .int .i64 n, .slice none 0 0, .slice none 0 0]) (by rw [results_cell1 (fn := Tryz.f37) (p := 2) (ty := 25) (by kernel_rfl)]; simp [go_sem]) rfl ?_
  exact ⟨rfl, by repeat' (first | exact Below.refl _ _ | with_reducible refine bl_alloc ?_ _ | with_reducible refine bl_set _ _ ?_ ?_ | (simp; done))⟩
/-- A list of two types, laid in a new block. -/
theorem TAtL.pair {w : World} {K : Nat → Prop} {n m : Nat} {a b : Tt} {u0 u1 u2 u3 v0 v1 v2 v3 : Value} (ha : TAt w K n [u0, u1, u2, u3] a) (hb : TAt w K m [v0, v1, v2, v3] b) (T : TypeId) (hK : K w.heap.size) :
    TAtL (w.alloc (.cells #[u0, u1, u2, u3, v0, v1, v2, v3] T)) K (max n m) (.slice (some ⟨w.heap.size, 0, none⟩) 2 2) [a, b] := by
  have hh := heap_alloc_at w (.cells #[u0, u1, u2, u3, v0, v1, v2, v3] T)
  have hbl : Below w.heap.size w (w.alloc (.cells #[u0, u1, u2, u3, v0, v1, v2, v3] T)) := bl_alloc (Below.refl _ _) _
  refine .inl ⟨w.heap.size, 0, 2, rfl, hK, (show 2 ≤ 2 by decide), (show 2 ≤ maxLen by decide), fun i x hx => ?_⟩
  match i, hx with
  | 0, hx =>
    simp at hx; subst hx
    refine ⟨_, fun j v hv => ?_, (ha.below hbl).le (Nat.le_max_left _ _)⟩
    match j, hv with
    | 0, hv => simp at hv; subst hv; rw [cell_at hh]; rfl
    | 1, hv => simp at hv; subst hv; rw [cell_at hh]; rfl
    | 2, hv => simp at hv; subst hv; rw [cell_at hh]; rfl
    | 3, hv => simp at hv; subst hv; rw [cell_at hh]; rfl
    | j + 4, hv => simp at hv
  | 1, hx =>
    simp at hx; subst hx
    refine ⟨_, fun j v hv => ?_, (hb.below hbl).le (Nat.le_max_right _ _)⟩
    match j, hv with
    | 0, hv => simp at hv; subst hv; rw [cell_at hh]; rfl
    | 1, hv => simp at hv; subst hv; rw [cell_at hh]; rfl
    | 2, hv => simp at hv; subst hv; rw [cell_at hh]; rfl
    | 3, hv => simp at hv; subst hv; rw [cell_at hh]; rfl
    | j + 4, hv => simp at hv
  | i + 2, hx => simp at hx
theorem TAtL.single {w : World} {K : Nat → Prop} {n : Nat} {a : Tt} {u0 u1 u2 u3 : Value} (ha : TAt w K n [u0, u1, u2, u3] a) (T : TypeId) (hK : K w.heap.size) :
    TAtL (w.alloc (.cells #[u0, u1, u2, u3] T)) K n (.slice (some ⟨w.heap.size, 0, none⟩) 1 1) [a] := by
  have hh := heap_alloc_at w (.cells #[u0, u1, u2, u3] T)
  have hbl : Below w.heap.size w (w.alloc (.cells #[u0, u1, u2, u3] T)) := bl_alloc (Below.refl _ _) _
  refine .inl ⟨w.heap.size, 0, 1, rfl, hK, (show 1 ≤ 1 by decide), (show 1 ≤ maxLen by decide), fun i x hx => ?_⟩
  match i, hx with
  | 0, hx =>
    simp at hx; subst hx
    refine ⟨_, fun j v hv => ?_, ha.below hbl⟩
    match j, hv with
    | 0, hv => simp at hv; subst hv; rw [cell_at hh]; rfl
    | 1, hv => simp at hv; subst hv; rw [cell_at hh]; rfl
    | 2, hv => simp at hv; subst hv; rw [cell_at hh]; rfl
    | 3, hv => simp at hv; subst hv; rw [cell_at hh]; rfl
    | j + 4, hv => simp at hv
  | i + 1, hx => simp at hx

set_option maxHeartbeats 1000000 in
set_option maxRecDepth 100000 in
theorem fn_any (w : World) (x y : Int) : Calls Tryz.prog 36 #[.agg #[.int .i64 6, .int .i64 x, .slice none 0 0, .slice none 0 0], .agg #[.int .i64 6, .int .i64 y, .slice none 0 0, .slice none 0 0]] w fun e w' => ∃ g, e = .returned (.agg #[.int .i64 4, .int .i64 0, .slice none 0 0, .slice (some ⟨g, 0, none⟩) 2 2]) ∧ (R64 x → R64 y → TAt w' Any 2 [.int .i64 4, .int .i64 0, .slice none 0 0, .slice (some ⟨g, 0, none⟩) 2 2] (.mk 4 0 [] [.mk 6 x [] [], .mk 6 y [] []])) ∧ Below w.heap.size w w' := by
  go_enter Tryz.func36, Tryz.ntmps36
  go_wp2
  refine bodyPost_ret (v := .agg #[.int .i64 4, .int .i64 0, .slice none 0 0, .slice (some ⟨w.heap.size + 1 + 1 + 1, 0, none⟩) 2 2]) (by rw [results_cell1 (fn := Tryz.f36) (p := 4) (ty := 25) (by kernel_rfl)]; simp [go_sem]) rfl ?_
  generalize hW : (((w.alloc (.cells #[.int .i64 6, .int .i64 x, .slice none 0 0, .slice none 0 0] 25)).alloc (.cells #[.int .i64 6, .int .i64 y, .slice none 0 0, .slice none 0 0] 25)).alloc (.cells #[.int .i64 4, .int .i64 0, .slice none 0 0, .slice (some ⟨w.heap.size + 1 + 1 + 1, 0, none⟩) 2 2] 25)) = W3
  have hb3 : Below w.heap.size w W3 := by rw [← hW]; exact bl_alloc (bl_alloc (bl_alloc (Below.refl _ _) _) _) _
  have hs : W3.heap.size = w.heap.size + 1 + 1 + 1 := by rw [← hW, size_alloc, size_alloc, size_alloc]
  refine ⟨_, rfl, fun hx hy => ?_, bl_alloc hb3 _⟩
  have := TAtL.pair (w := W3) (K := Any) (TAt.leaf W3 Any 6 x ⟨by decide, by decide⟩ hx) (TAt.leaf W3 Any 6 y ⟨by decide, by decide⟩ hy) 25 trivial
  rw [hs] at this
  exact ⟨_, _, rfl, (show R64 4 from ⟨by decide, by decide⟩), (show R64 0 from ⟨by decide, by decide⟩), .inr ⟨rfl, _, _, rfl⟩, this⟩

set_option maxHeartbeats 1000000 in
set_option maxRecDepth 100000 in
theorem all_any (w : World) (x : Int) (g n : Nat) (t : Tt) (ht : TAt w Any n [.int .i64 4, .int .i64 0, .slice none 0 0, .slice (some ⟨g, 0, none⟩) 2 2] t) : Calls Tryz.prog 35 #[.int .i64 x, .agg #[.int .i64 4, .int .i64 0, .slice none 0 0, .slice (some ⟨g, 0, none⟩) 2 2]] w fun e w' => ∃ g', e = .returned (.agg #[.int .i64 10, .int .i64 x, .slice none 0 0, .slice (some ⟨g', 0, none⟩) 1 1]) ∧ (R64 x → TAt w' Any (n + 1) [.int .i64 10, .int .i64 x, .slice none 0 0, .slice (some ⟨g', 0, none⟩) 1 1] (.mk 10 x [] [t])) ∧ Below w.heap.size w w' := by
  have HT := hid ht
  clear ht
  go_enter Tryz.func35, Tryz.ntmps35
  go_wp2
  refine bodyPost_ret (v := .agg #[.int .i64 10, .int .i64 x, .slice none 0 0, .slice (some ⟨w.heap.size + 1 + 1, 0, none⟩) 1 1]) (by rw [results_cell1 (fn := Tryz.f35) (p := 4) (ty := 25) (by kernel_rfl)]; simp [go_sem]) rfl ?_
  generalize hW : ((w.alloc (.cells #[.int .i64 4, .int .i64 0, .slice none 0 0, .slice (some ⟨g, 0, none⟩) 2 2] 25)).alloc (.cells #[.int .i64 10, .int .i64 x, .slice none 0 0, .slice (some ⟨w.heap.size + 1 + 1, 0, none⟩) 1 1] 25)) = W3
  have hb3 : Below w.heap.size w W3 := by rw [← hW]; exact bl_alloc (bl_alloc (Below.refl _ _) _) _
  have hs : W3.heap.size = w.heap.size + 1 + 1 := by rw [← hW, size_alloc, size_alloc]
  refine ⟨_, rfl, fun hx => ?_, bl_alloc hb3 _⟩
  have := TAtL.single (w := W3) (K := Any) (HT.out.below hb3) 25 trivial
  rw [hs] at this
  exact ⟨_, _, rfl, (show R64 10 from ⟨by decide, by decide⟩), hx, .inr ⟨rfl, _, _, rfl⟩, this⟩
/-- The chapter's example: a number that is bound, and one that is free. -/
def Tt.ex (x y : Int) : Tt := .mk 10 x [] [.mk 4 0 [] [.mk 6 x [] [], .mk 6 y [] []]]
theorem Tt.ex_same : Tt.same (Tt.ex 1 2) (Tt.ex 7 2) [] [] = true := by
  simp [Tt.ex, Tt.same_mk, Tt.sameL, Tt.alike, Tt.env, Tt.binds, Tt.num, Tt.one, Tt.eqLs, Tt.k, Tt.n, Tt.ls, Tt.ks, lk]
theorem Tt.ex_unlike : Tt.same (Tt.ex 1 2) (Tt.ex 7 3) [] [] = false := by
  simp [Tt.ex, Tt.same_mk, Tt.sameL, Tt.alike, Tt.env, Tt.binds, Tt.num, Tt.one, Tt.eqLs, Tt.k, Tt.n, Tt.ls, Tt.ks, lk]
theorem Tt.ex_cnt (x y : Int) : (Tt.ex x y).cnt = 4 := by simp [Tt.ex, Tt.cnt, Tt.cntL]
theorem itoa0 : Lib.itoa 0 = [48] := by unfold Lib.itoa; rw [if_neg (by decide), Lib.decDigits]; rfl
theorem itoa1 : Lib.itoa 1 = [49] := by unfold Lib.itoa; rw [if_neg (by decide), Lib.decDigits]; rfl
theorem itoa2 : Lib.itoa 2 = [50] := by unfold Lib.itoa; rw [if_neg (by decide), Lib.decDigits]; rfl
theorem Tt.ex_txt : (Tt.ex 1 2).txt [] = [97, 108, 108, 32, 116, 48, 46, 32, 116, 48, 32, 45, 62, 32, 35, 50] := by
  simp [Tt.ex, Tt.txt, Tt.txtL, Tt.form, Tt.fitN, Tt.clo, Tt.word, Tt.varT, Tt.k, lk, itoa0, itoa2]
theorem Tt.ex_txt2 : (Tt.ex 0 1).txt [] = [97, 108, 108, 32, 116, 48, 46, 32, 116, 48, 32, 45, 62, 32, 35, 49] := by
  simp [Tt.ex, Tt.txt, Tt.txtL, Tt.form, Tt.fitN, Tt.clo, Tt.word, Tt.varT, Tt.k, lk, itoa0, itoa1]
theorem fresh_of_not {l : List Int} {m : Int} (h : m ∉ l) : ∀ f, fresh l f m = m
  | 0 => rfl
  | f + 1 => by rw [fresh, if_neg h]
theorem Tt.ex_fv (x : Int) : (Tt.ex 1 2).fv [] x = decide (x = 2) := by
  by_cases h1 : x = 1
  · subst h1; simp [Tt.ex, Tt.fv_mk, Tt.fvL, Tt.env, Tt.binds, Tt.k, Tt.n, Tt.ks, lk]
  · by_cases h2 : x = 2
    · subst h2; simp [Tt.ex, Tt.fv_mk, Tt.fvL, Tt.env, Tt.binds, Tt.k, Tt.n, Tt.ks, lk]
    · have h3 : ¬ (1 : Int) = x := fun e => h1 e.symm
      have h4 : ¬ (2 : Int) = x := fun e => h2 e.symm
      simp [Tt.ex, Tt.fv_mk, Tt.fvL, Tt.env, Tt.binds, Tt.k, Tt.n, Tt.ks, lk, h2, h3, h4]
theorem Tt.leaf_fv (x : Int) : (Tt.mk 6 1 [] []).fv [] x = decide (x = 1) := by
  simp [Tt.fv_mk, Tt.fvL, Tt.env, Tt.binds, Tt.k, Tt.n, Tt.ks, lk]
  by_cases h : x = 1
  · subst h; simp
  · have h3 : ¬ (1 : Int) = x := fun e => h e.symm
    simp [h, h3]
theorem Tt.ex_put (l : List Int) (h : ∀ x, decide (x ∈ l) = ((Tt.ex 1 2).av x || (Tt.mk 6 1 [] []).fv [] x)) : (Tt.ex 1 2).Put 2 (.mk 6 1 [] []) l = Tt.ex 0 1 := by
  have h0 : (0 : Int) ∉ l := by
    have := h 0
    rw [Tt.leaf_fv] at this
    have h2 : (Tt.ex 1 2).av 0 = false := by simp [Tt.ex, Tt.av_mk, Tt.avL, Tt.binds, Tt.k, Tt.n, Tt.ks]
    rw [h2] at this
    simpa using this
  have hf := fresh_of_not h0 l.length
  unfold Tt.Put
  rw [Tt.ex_fv, if_pos (by decide)]
  simp [Tt.ex, Tt.put_mk, Tt.putL, Tt.own3, give, Tt.leaf_fv, Tt.binds, Tt.k, Tt.n, Tt.ks, Tt.ls, lk, hf]
theorem Tt.ex_right : (Tt.ex 1 2).errno = 0 := by
  have h1 : (Tt.ex 1 2).right = true := by simp [Tt.ex, Tt.right, Tt.rightL, Tt.own, Tt.near, Tt.rise]
  have h2 : (Tt.ex 1 2).deepest = 3 := by simp [Tt.ex, Tt.deepest, Tt.deepestL]
  unfold Tt.errno
  rw [h1, h2]
  rfl
theorem Tt.ex_free {l : List Int} (h : Tt.IsFree ((Tt.ex 1 2).fv []) l) : l.length = 1 := by
  obtain ⟨h1, h2⟩ := h
  have h3 : ∀ x, x ∈ l ↔ x = 2 := fun x => by rw [h2 x, Tt.ex_fv]; simp
  match l, h1, h3 with
  | [], _, h3 => exact absurd ((h3 2).2 rfl) (by simp)
  | [a], _, _ => rfl
  | a :: b :: r, h1, h3 =>
    have ha := (h3 a).1 (by simp)
    have hb := (h3 b).1 (by simp)
    have := List.rel_of_pairwise_cons h1 (show b ∈ b :: r by simp)
    omega
end Go.Proofs.YtfeppchgmobfpaaGreatDoor
