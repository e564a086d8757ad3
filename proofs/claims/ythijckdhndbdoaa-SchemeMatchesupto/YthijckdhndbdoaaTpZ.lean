/- Replace. -/
import Derived.Test.YthijckdhndbdoaaTpU
import Derived.Test.YthijckdhndbdoaaTpM
namespace Go.Proofs.Ythijckdhndbdoaa
open Go.RowKit
set_option linter.unusedVariables false
set_option linter.unusedSimpArgs false

def Tp.zero : Tp := .mk 0 0 []
/-- What Replace answers: the type, and the error's number. -/
def Tp.repl (kind : Int) (fr : List Int) (to : List Tp) (t : Tp) : Tp × Int := if fr.length ≠ to.length then (Tp.zero, 1) else if 1000 < (Tp.put kind fr to t).cnt then (Tp.zero, 3) else (Tp.put kind fr to t, 0)
def Repl (w : World) (q : Tp × Int) (e : Ending) (w' : World) : Prop := ∃ vs' n', e = .returned (.tuple #[.agg vs'.toArray, .int .i64 q.2]) ∧ TAt w' (fun b => w.heap.size ≤ b) n' vs' q.1 ∧ Below w.heap.size w w'
theorem TAt.zero (w : World) (K : Nat → Prop) : TAt w K 1 [.int .i64 0, .int .i64 0, .slice none 0 0] Tp.zero := ⟨_, rfl, ⟨by decide, by decide⟩, ⟨by decide, by decide⟩, .inr ⟨rfl, _, _, rfl⟩⟩

set_option maxHeartbeats 2000000 in
set_option maxRecDepth 100000 in
theorem Replace_any (w : World) (n m : Nat) (vs : List Value) (t : Tp) (kind : Int) (fv tv : Value) (fr : List Int) (to : List Tp) (hT : TAt w Any n vs t) (hf : Ls w Any fv fr) (ht : TAtL w Any m tv to) :
    Calls Try.prog 37 #[.agg vs.toArray, .int .i64 kind, fv, tv] w (Repl w (Tp.repl kind fr to t)) := by
  obtain ⟨fa, fc, hfv, hfm⟩ := hf.form
  obtain ⟨ta, tc, htv, htm⟩ := ht.form
  unfold maxLen at hfm htm
  by_cases hl : fr.length = to.length
  · have hq : Hid (∀ o o', Calls Try.prog 51 #[.agg vs.toArray, .func (.func 59) #[.pointer (some ⟨w.heap.size + 1 + 1, 0, none⟩)] #[]] (((w.alloc o).alloc o').alloc (.cells #[.int .i64 0, .int .i64 kind, fv, tv] 81)) fun e w' => e = .returned (.bool (decide ((Tp.put kind fr to t).cnt ≤ 1000))) ∧ Below w.heap.size w w' ∧ (∀ b, b < w.heap.size + 2 → w'.heap[b]? = ((w.alloc o).alloc o').heap[b]?) ∧ w.heap.size + 3 ≤ w'.heap.size ∧ ∃ s, Rep (w.heap.size + 1 + 1) kind fv tv fr to Any m s w') := by
      intro o o'
      have hb : Below w.heap.size w (((w.alloc o).alloc o').alloc (.cells #[.int .i64 0, .int .i64 kind, fv, tv] 81)) := bl_alloc (bl_alloc (bl_alloc (Below.refl _ _) _) _) _
      have hM : Mtr (w.heap.size + 1 + 1) [.int .i64 kind, fv, tv] 81 0 (((w.alloc o).alloc o').alloc (.cells #[.int .i64 0, .int .i64 kind, fv, tv] 81)) := ⟨by have := heap_alloc_at ((w.alloc o).alloc o') (.cells #[.int .i64 0, .int .i64 kind, fv, tv] 81); rw [size_alloc, size_alloc] at this; exact this⟩
      have hR : Rep (w.heap.size + 1 + 1) kind fv tv fr to (fun b => b ≠ w.heap.size + 1 + 1) m 0 (((w.alloc o).alloc o').alloc (.cells #[.int .i64 0, .int .i64 kind, fv, tv] 81)) :=
        ⟨hM, hf.old.move (Keeps.of_below hb) (fun b h => by omega), (TAtL.old ht).move (Keeps.of_below hb) (fun b h => by omega), hl⟩
      refine (walk_measure (w.heap.size + 1 + 1) kind fv tv fr to m 0 _ n vs t hR (by decide) (by decide) ((TAt.old hT).move (Keeps.of_below hb) (fun b h => by omega))).mono ?_
      rintro e w' ⟨rfl, h1, h2⟩
      refine ⟨?_, hb.trans (h2.below (by simp; omega) (fun b hb => by rw [hb]; omega)), fun b hb2 => ?_, ?_, _, ⟨h1.m, h1.f.any, h1.t.any, h1.len⟩⟩
      · rw [Int.zero_add]
        unfold Tp.upto
        by_cases h : (Tp.put kind fr to t).cnt ≤ 1000
        · rw [if_pos (by omega), decide_eq_true h]
        · rw [if_neg (by omega), decide_eq_false h]
      · rw [h2.block b (by simp; omega) (by omega), Below.heap_alloc _ _ _ (by simp; omega)]
      · have := h2.size; simp at this; omega
    have hq2 : Hid (∀ wz, Below w.heap.size w wz → (∃ s, Rep (w.heap.size + 1 + 1) kind fv tv fr to Any m s wz) → (Tp.put kind fr to t).cnt ≤ 1000 → Calls Try.prog 60 #[.pointer (some ⟨w.heap.size + 1 + 1, 0, none⟩), .agg vs.toArray] wz (Made wz (Tp.put kind fr to t))) := fun wz hz ⟨s, hs⟩ hc => replaced_any _ kind fv tv fr to m n s wz vs t hs (hT.below hz) hc
    have hne : ((fr.length : Int) != (to.length : Int)) = false := by simp [hl]
    obtain ⟨a, c, rfl⟩ := hT.form
    subst hfv; subst htv
    have hbx : Hid (∀ o', Arr ((w.alloc (.cells #[.int .i64 t.k, .int .i64 t.n, .slice a t.ks.length c] 24)).alloc o') w.heap.size 24 [.int .i64 t.k, .int .i64 t.n, .slice a t.ks.length c]) := fun o' => Arr.stays ⟨heap_alloc_at _ _⟩ (bl_alloc (Below.refl _ _) _)
    by_cases hc : (Tp.put kind fr to t).cnt ≤ 1000
    · have hrp : Tp.repl kind fr to t = (Tp.put kind fr to t, 0) := by unfold Tp.repl; rw [if_neg (by simp [hl]), if_neg (by omega)]
      rw [hrp]
      rw [decide_eq_true hc] at hq
      have HC : Hid ((Tp.put kind fr to t).cnt ≤ 1000) := hc
      clear hc hrp hf ht hT hl
      go_enter Try.func37, Try.ntmps37
      go_wp2_with (first | (go_at_call 51; refine (hq.out _ _).mono ?_; rintro e w2 ⟨rfl, hb2, hbl2, hsz2, hrep2⟩; have HX : Hid (Arr w2 w.heap.size 24 [.int .i64 t.k, .int .i64 t.n, .slice a t.ks.length c]) := (⟨by rw [hbl2 _ (by omega)]; exact (hbx.out _).b⟩); have HY : Hid (Arr w2 (w.heap.size + 1) 24 [.int .i64 0, .int .i64 0, .slice none 0 0]) := (⟨by rw [hbl2 _ (by omega)]; exact (res_box w _).b⟩); have k1 := HX.out.cell; have HB2 : Hid (Below w.heap.size w w2) := hb2; have HS2 : Hid (w.heap.size + 3 ≤ w2.heap.size) := hsz2; have HP2 : Hid _ := hrep2; clear hb2 hbl2 hsz2 hrep2) | (go_at_call 60; refine (hq2.out _ HB2.out HP2.out HC.out).mono ?_; intro e w3 hm3; obtain ⟨a3, n3, c3, rfl, hT3, hb3⟩ := hm3.form; clear hm3; have k3 := (HY.out.stays hb3).cell; have k4 := (HY.out.stays hb3).frozen))
      refine bodyPost_ret (v := .tuple #[.agg #[.int .i64 (Tp.put kind fr to t).k, .int .i64 (Tp.put kind fr to t).n, .slice a3 (Tp.put kind fr to t).ks.length c3], .int .i64 0]) (by rw [results_cell_tmp (fn := Try.f37) (p := 8) (u := 9) (ty := 24) (by kernel_rfl)]; simp [go_sem, k3]) rfl ?_
      obtain ⟨h1, h2⟩ := made_store HB2.out (by have := HS2.out; omega) hT3 hb3
      exact ⟨[_, _, _], n3, rfl, h1, h2⟩
    · have hrp : Tp.repl kind fr to t = (Tp.zero, 3) := by unfold Tp.repl; rw [if_neg (by simp [hl]), if_pos (by omega)]
      rw [hrp]
      rw [decide_eq_false hc] at hq
      clear hc hrp hf ht hT hl hq2
      go_enter Try.func37, Try.ntmps37
      go_wp2_with (first | (go_at_call 51; refine (hq.out _ _).mono ?_; rintro e w2 ⟨rfl, hb2, hbl2, hsz2, hrep2⟩; have HY : Hid (Arr w2 (w.heap.size + 1) 24 [.int .i64 0, .int .i64 0, .slice none 0 0]) := (⟨by rw [hbl2 _ (by omega)]; exact (res_box w _).b⟩); have k3 := HY.out.cell; have k4 := HY.out.frozen; clear hbl2 hrep2 hsz2))
      refine bodyPost_ret (v := .tuple #[.agg #[.int .i64 0, .int .i64 0, .slice none 0 0], .int .i64 3]) (by rw [results_cell_tmp (fn := Try.f37) (p := 8) (u := 9) (ty := 24) (by kernel_rfl)]; simp [go_sem, k3]) rfl ?_
      exact ⟨[_, _, _], 1, rfl, TAt.zero _ _, by repeat' (first | exact hb2 | with_reducible refine bl_set _ _ ?_ ?_ | (simp; done))⟩
  · have hrp : Tp.repl kind fr to t = (Tp.zero, 1) := by unfold Tp.repl; rw [if_pos hl]
    rw [hrp]
    have hne : ((fr.length : Int) != (to.length : Int)) = true := by simp; omega
    obtain ⟨a, c, rfl⟩ := hT.form
    subst hfv; subst htv
    clear hrp hf ht hT hl
    go_enter Try.func37, Try.ntmps37
    go_wp2
    refine bodyPost_ret (v := .tuple #[.agg #[.int .i64 0, .int .i64 0, .slice none 0 0], .int .i64 1]) (by rw [results_cell_tmp (fn := Try.f37) (p := 8) (u := 9) (ty := 24) (by kernel_rfl)]; simp [go_sem]) rfl ?_
    exact ⟨[_, _, _], 1, rfl, TAt.zero _ _, by repeat' (first | exact Below.refl _ _ | with_reducible refine bl_alloc ?_ _ | with_reducible refine bl_set _ _ ?_ ?_ | (simp; done))⟩
end Go.Proofs.Ythijckdhndbdoaa
