/- The document's Replace. -/
import Derived.Test.YtbdohoebpaiecaaDoorTpPv
import Derived.Test.YtbdohoebpaiecaaDoorTpZ
namespace Go.Proofs.YtbdohoebpaiecaaDoor
open Go.RowKit
set_option linter.unusedVariables false
set_option linter.unusedSimpArgs false

set_option maxHeartbeats 2000000 in
set_option maxRecDepth 100000 in
theorem refReplace_any (w : World) (n m : Nat) (vs : List Value) (t : Tp) (kind : Int) (fv tv : Value) (fr : List Int) (to : List Tp) (hT : TAt w Any n vs t) (hf : Ls w Any fv fr) (ht : TAtL w Any m tv to) :
    Calls Tryd.prog 32 #[.agg vs.toArray, .int .i64 kind, fv, tv] w fun e w' => ∃ vs' n', e = .returned (.tuple #[.agg vs'.toArray, .int .i64 (Tp.repl kind fr to t).2]) ∧ TAt w' Any n' vs' (Tp.repl kind fr to t).1 ∧ Below w.heap.size w w' := by
  obtain ⟨fa, fc, hfv, hfm⟩ := hf.form
  obtain ⟨ta, tc, htv, htm⟩ := ht.form
  unfold maxLen at hfm htm
  by_cases hl : fr.length = to.length
  · have hqg : Hid (∀ wz, Below w.heap.size w wz → Calls Tryd.prog 65 #[.agg vs.toArray, .int .i64 kind, fv, tv, .int .i64 0] wz fun e w' => e = .returned (.int .i64 (Tp.cap (0 + (Tp.put kind fr to t).cnt))) ∧ Below wz.heap.size wz w') := fun wz hz => grown_any kind fv tv fr to hl m n wz vs t 0 (hT.below hz) (hf.below hz) (ht.below hz) (by decide) (by decide)
    have hqp : Hid (∀ wz, Below w.heap.size w wz → (Tp.put kind fr to t).cnt ≤ 1000 → Calls Tryd.prog 66 #[.agg vs.toArray, .int .i64 kind, fv, tv] wz fun e w' => ∃ vs' n', e = .returned (.agg vs'.toArray) ∧ TAt w' (fun b => b < w.heap.size ∨ wz.heap.size ≤ b) n' vs' (Tp.put kind fr to t) ∧ Below wz.heap.size wz w') := fun wz hz hc => put_any kind fv tv fr to hl m w.heap.size n wz vs t (hT.below hz) (hf.below hz) ((TAtL.old ht).below hz) hz.size hc
    have hne : ((fr.length : Int) != (to.length : Int)) = false := by simp [hl]
    obtain ⟨a, c, rfl⟩ := hT.form
    subst hfv; subst htv
    have XB : Hid (Below w.heap.size w ((w.alloc (.cells #[.int .i64 t.k, .int .i64 t.n, .slice a t.ks.length c] 24)).alloc (.cells #[.int .i64 0, .int .i64 0, .slice none 0 0] 24))) := bl_alloc (bl_alloc (Below.refl _ _) _) _
    have X0 : Hid (Arr ((w.alloc (.cells #[.int .i64 t.k, .int .i64 t.n, .slice a t.ks.length c] 24)).alloc (.cells #[.int .i64 0, .int .i64 0, .slice none 0 0] 24)) w.heap.size 24 [.int .i64 t.k, .int .i64 t.n, .slice a t.ks.length c]) := Arr.stays ⟨heap_alloc_at _ _⟩ (bl_alloc (Below.refl _ _) _)
    have X1 : Hid (Arr ((w.alloc (.cells #[.int .i64 t.k, .int .i64 t.n, .slice a t.ks.length c] 24)).alloc (.cells #[.int .i64 0, .int .i64 0, .slice none 0 0] 24)) (w.heap.size + 1) 24 [.int .i64 0, .int .i64 0, .slice none 0 0]) := res_box w _
    by_cases hc : (Tp.put kind fr to t).cnt ≤ 1000
    · have hrp : Tp.repl kind fr to t = ((Tp.put kind fr to t), 0) := by unfold Tp.repl; rw [if_neg (by simp [hl]), if_neg (by omega)]
      rw [hrp]
      rw [Tp.cap_small (by omega)] at hqg
      have hz3 : decide ((1000 : Int) < 0 + ((Tp.put kind fr to t).cnt : Int)) = false := decide_eq_false (by omega)
      generalize 0 + ((Tp.put kind fr to t).cnt : Int) = z at hqg hz3
      have HC : Hid ((Tp.put kind fr to t).cnt ≤ 1000) := hc
      clear hc hrp hf ht hT hl
      go_enter Tryd.func32, Tryd.ntmps32
      go_wp2_with (first | (go_at_call 65; refine (hqg.out _ XB.out).mono ?_; rintro e w2 ⟨rfl, hb2⟩; have Y0 : Hid (Arr w2 w.heap.size 24 _) := X0.out.stays hb2; have Y1 : Hid (Arr w2 (w.heap.size + 1) 24 _) := X1.out.stays hb2; have YB : Hid (Below w.heap.size w w2) := bl_tr XB.out hb2; have k0 := Y0.out.cell; clear hb2) | (go_at_call 66; refine (hqp.out _ YB.out HC.out).mono ?_; rintro e w3 ⟨vs3, n3, rfl, hT3, hb3⟩; obtain ⟨a3, c3, rfl⟩ := hT3.form; have Z1 : Hid (Arr w3 (w.heap.size + 1) 24 _) := Y1.out.stays hb3; have HT3 : Hid (TAt w3 _ n3 _ _) := hT3; have ZB : Hid (Below w.heap.size w w3) := bl_tr YB.out hb3; have k1 := Z1.out.cell; have k2 := Z1.out.frozen; clear hT3 hb3))
      refine bodyPost_ret (v := .tuple #[.agg #[.int .i64 (Tp.put kind fr to t).k, .int .i64 (Tp.put kind fr to t).n, .slice a3 (Tp.put kind fr to t).ks.length c3], .int .i64 0]) (by rw [results_cell_tmp (fn := Tryd.f32) (p := 8) (u := 9) (ty := 24) (by kernel_rfl)]; simp [go_sem, k1]) rfl ?_
      have hs2 : w.heap.size + 1 < w2.heap.size := Y1.out.lt
      have ns : ¬ (w.heap.size + 1 < w.heap.size ∨ w2.heap.size ≤ w.heap.size + 1) := by omega
      exact ⟨[_, _, _], n3, rfl, (HT3.out.move (((Keeps.set (p := ⟨w.heap.size + 1, 0, none⟩) ns _).trans (Keeps.set (p := ⟨w.heap.size + 1, 1, none⟩) ns _)).trans (Keeps.set (p := ⟨w.heap.size + 1, 2, none⟩) ns _)) (fun _ h => h)).any, bl_set _ _ (bl_set _ _ (bl_set _ _ ZB.out (by show _ ≤ w.heap.size + 1; omega)) (by show _ ≤ w.heap.size + 1; omega)) (by show _ ≤ w.heap.size + 1; omega)⟩
    · have hrp : Tp.repl kind fr to t = (Tp.zero, 3) := by unfold Tp.repl; rw [if_neg (by simp [hl]), if_pos (by omega)]
      rw [hrp]
      rw [Tp.cap_big (by omega)] at hqg
      clear hc hrp hf ht hT hl hqp
      go_enter Tryd.func32, Tryd.ntmps32
      go_wp2_with (first | (go_at_call 65; refine (hqg.out _ XB.out).mono ?_; rintro e w2 ⟨rfl, hb2⟩; have Y1 : Hid (Arr w2 (w.heap.size + 1) 24 _) := X1.out.stays hb2; have hb3 : Below w.heap.size w w2 := bl_tr XB.out hb2; have k1 := Y1.out.cell; have k2 := Y1.out.frozen; clear hb2))
      refine bodyPost_ret (v := .tuple #[.agg #[.int .i64 0, .int .i64 0, .slice none 0 0], .int .i64 3]) (by rw [results_cell_tmp (fn := Tryd.f32) (p := 8) (u := 9) (ty := 24) (by kernel_rfl)]; simp [go_sem, k1]) rfl ?_
      exact ⟨[_, _, _], 1, rfl, TAt.zero _ _, by repeat' (first | exact hb3 | with_reducible refine bl_set _ _ ?_ ?_ | (simp; done))⟩
  · have hrp : Tp.repl kind fr to t = (Tp.zero, 1) := by unfold Tp.repl; rw [if_pos hl]
    rw [hrp]
    have hne : ((fr.length : Int) != (to.length : Int)) = true := by simp; omega
    obtain ⟨a, c, rfl⟩ := hT.form
    subst hfv; subst htv
    clear hrp hf ht hT hl
    go_enter Tryd.func32, Tryd.ntmps32
    go_wp2
    refine bodyPost_ret (v := .tuple #[.agg #[.int .i64 0, .int .i64 0, .slice none 0 0], .int .i64 1]) (by rw [results_cell_tmp (fn := Tryd.f32) (p := 8) (u := 9) (ty := 24) (by kernel_rfl)]; simp [go_sem]) rfl ?_
    exact ⟨[_, _, _], 1, rfl, TAt.zero _ _, by repeat' (first | exact Below.refl _ _ | with_reducible refine bl_alloc ?_ _ | with_reducible refine bl_set _ _ ?_ ?_ | (simp; done))⟩
end Go.Proofs.YtbdohoebpaiecaaDoor
