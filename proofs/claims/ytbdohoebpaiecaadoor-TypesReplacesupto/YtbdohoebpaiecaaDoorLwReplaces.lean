/- TypesReplaces: the walk. -/
import Derived.Test.YtbdohoebpaiecaaDoorTpCp
import Derived.Test.YtbdohoebpaiecaaDoorTpIn
import Derived.Test.YtbdohoebpaiecaaDoorTpPx
import Derived.Test.YtbdohoebpaiecaaDoorTpY
import Derived.Test.YtbdohoebpaiecaaDoorTpE
import Derived.Test.YtbdohoebpaiecaaDoorTpO
namespace Go.Proofs.YtbdohoebpaiecaaDoor
open Go.RowKit
set_option linter.unusedVariables false
set_option linter.unusedSimpArgs false

set_option maxHeartbeats 4000000 in
set_option maxRecDepth 100000 in
theorem replaces_walk (w : World) (hW : Tab w) (n : Nat) (vs : List Value) (t : Tp) (hT : TAt w Any n vs t) (kind : Int) (hk : R64 kind) (fv : Value) (l : List Int) (hf : Ls w Any fv l ∧ Sly fv) (m : Nat) (tv : Value) (k : List Tp) (ht : TAtL w Any m tv k ∧ Sly tv) (hl : l.length ≤ 1048576) (hkl : Tp.cntL k ≤ 1048576) :
    Calls Tryd.prog 5 #[.agg vs.toArray, .int .i64 kind, fv, tv] w fun e w' => e = .returned (.bool true) ∧ Below w.heap.size w w' := by
  have hkl2 : k.length ≤ 1048576 := Nat.le_trans (Tp.cntL_len k) hkl
  obtain ⟨a, c, rfl⟩ := hT.form
  have HT : Hid (TAt w Any n [.int .i64 t.k, .int .i64 t.n, .slice a t.ks.length c] t) := hT
  have HF : Hid (Ls w Any fv l) := hf.1
  have HK : Hid (TAtL w Any m tv k) := ht.1
  have HW : Hid (Tab w) := hW
  have SF : Hid (Src w 1 fv l.length (l.map (.int .i64))) := hf.1.src hf.2
  obtain ⟨vals, hsk, hse⟩ := ht.1.src ht.2
  have SK : Hid (Src w 3 tv k.length vals) := hsk
  have SE : Hid (∀ (i : Nat) x, k[i]? = some x → ∃ vs, TAt w Any m vs x ∧ Seg vals (i * 3) vs) := hse
  have HL : Hid (l.length ≤ 1048576) := hl
  have HKL : Hid (k.length ≤ 1048576) := hkl2
  have hS : Hid (∀ (wz : World) (n1 n2 : Nat) (v1 v2 : List Value), TAt wz Any n1 v1 (Tp.repl kind l k t).1 → TAt wz Any n2 v2 (Tp.repl kind l k t).1 → Calls Tryd.prog 28 #[.agg v1.toArray, .agg v2.toArray] wz fun e w' => e = .returned (.bool true) ∧ Below wz.heap.size wz w') := fun wz n1 n2 v1 v2 h1 h2 => (refSame_any wz n1 n2 v1 v2 _ _ h1 h2).mono fun e w' h => by rw [show (Tp.cmp (Tp.repl kind l k t).1 (Tp.repl kind l k t).1 == 0) = true by rw [beq_iff_eq]; exact (Tp.cmp_eq _ _).2 rfl] at h; exact h
  have hP : Hid (∀ (wz : World) (v1 v2 : Value), Below w.heap.size w wz → Ls wz Any v1 l → TAtL wz Any m v2 k → Calls Tryd.prog 31 #[.agg #[.int .i64 t.k, .int .i64 t.n, .slice a t.ks.length c], .int .i64 kind, v1, v2] wz fun e w' => ∃ vs' n', e = .returned (.tuple #[.agg vs'.toArray, .int .i64 (Tp.repl kind l k t).2]) ∧ TAt w' Any n' vs' (Tp.repl kind l k t).1 ∧ Below wz.heap.size wz w') := fun wz v1 v2 hz h1 h2 => (Replace_any wz n m _ t kind v1 v2 l k (HT.out.below hz) h1 h2).mono fun e w' ⟨vs', n', e1, e2, e3⟩ => ⟨vs', n', e1, e2.any, e3⟩
  have hR : Hid (∀ (wz : World), Below w.heap.size w wz → Calls Tryd.prog 32 #[.agg #[.int .i64 t.k, .int .i64 t.n, .slice a t.ks.length c], .int .i64 kind, fv, tv] wz fun e w' => ∃ vs' n', e = .returned (.tuple #[.agg vs'.toArray, .int .i64 (Tp.repl kind l k t).2]) ∧ TAt w' Any n' vs' (Tp.repl kind l k t).1 ∧ Below wz.heap.size wz w') := fun wz hz => refReplace_any wz n m _ t kind fv tv l k (HT.out.below hz) (HF.out.below hz) (HK.out.below hz)
  have hI : Hid (∀ (wz : World) (v1 : Value), Below w.heap.size w wz → Ls wz Any v1 l → Calls Tryd.prog 15 #[v1, fv] wz fun e w' => e = .returned (.bool true) ∧ Below wz.heap.size wz w') := fun wz v1 hz h1 => ints_any wz v1 fv l h1 (HF.out.below hz)
  have hA : Hid (∀ (wz : World), Below w.heap.size w wz → Calls Tryd.prog 26 #[] wz fun e w' => e = .returned (.bool true) ∧ Below wz.heap.size wz w') := fun wz hz => alive_any wz (HW.out.stays hz)
  generalize (Tp.repl kind l k t) = R at hS hP hR
  obtain ⟨r, q⟩ := R
  simp only at hS hP hR
  have A0 : Hid (Arr ((w.alloc (.cells #[.int .i64 t.k, .int .i64 t.n, .slice a t.ks.length c] 24)).alloc (.cells #[] 3)) w.heap.size 24 [.int .i64 t.k, .int .i64 t.n, .slice a t.ks.length c]) := Arr.stays ⟨heap_alloc_at _ _⟩ (bl_alloc (Below.refl _ _) _)
  have B0 : Hid (Below w.heap.size w ((w.alloc (.cells #[.int .i64 t.k, .int .i64 t.n, .slice a t.ks.length c] 24)).alloc (.cells #[] 3))) := bl_alloc (bl_alloc (Below.refl _ _) _) _
  have row0 : Hid (((w.alloc (.cells #[.int .i64 t.k, .int .i64 t.n, .slice a t.ks.length c] 24)).alloc (.cells #[] 3)).ownsRow (w.heap.size + 1) 3 1 (.slice (some ⟨w.heap.size + 1, 0, none⟩) 0 0) 0 []) := by
    have h := row_new (w.alloc (.cells #[.int .i64 t.k, .int .i64 t.n, .slice a t.ks.length c] 24)) 3 1
    rw [size_alloc] at h
    exact h
  obtain ⟨i0, hi0, hz0, hz1, hz2⟩ := info_parts0 info_clT
  obtain ⟨j0, hj0, hy0, hy1, hy2⟩ := info_parts0 info_int
  clear hT hf ht hW hsk hse hl hkl hkl2 hk
  have m0 := True.intro
  go_enter Tryd.func5, Tryd.ntmps5
  go_wp2_with (first
    | (at_builtin; have _ := m1; refine wp_copy rfl _ _ 22 rfl w2.heap.size 24 i0 (.agg #[.int .i64 0, .int .i64 0, .slice none 0 0]) 3 40 Tryd.underlying22 hi0 hz0 hz1 hz2 rfl (by decide) rfl (row_new _ _ _) tv k.length vals rfl ((SK.out.below B2.out).below (bl_alloc (Below.refl _ _) _)) HKL.out (by decide) (by simp) ?_; intro v' w3 hown hb; obtain ⟨p3, c3, rfl⟩ := own_form hown; have B23 : Hid (Below w2.heap.size w2 w3) := (bl_alloc (Below.refl _ _) _).trans hb; have B3 : Hid (Below w.heap.size w w3) := bl_tr B2.out B23.out; have A3 : Hid (Arr w3 w.heap.size 24 _) := A2.out.stays B23.out; have L3 : Hid (Ls w3 Any _ l) := L2.out.below B23.out; have K3 : Hid (TAtL w3 Any m (.slice p3 k.length c3) k) := TAtL.of_own hown (fun i x hx => (SE.out i x hx).elim fun vs h => ⟨vs, h.1.below B3.out, h.2⟩); have z3 := A3.out.cell; have m2 := True.intro; clear m1 hown hb A2)
    | (at_builtin; have _ := m0; refine wp_copy rfl _ _ 28 rfl (w.heap.size + 1) 3 j0 (.int .i64 0) 1 8 Tryd.underlying28 hj0 hy0 hy1 hy2 rfl (by decide) rfl row0.out fv l.length (l.map (.int .i64)) rfl (SF.out.below B0.out) HL.out (by decide) (by simp) ?_; intro v' w2 hown hb; obtain ⟨p2, c2, rfl⟩ := own_form hown; have B2 : Hid (Below w.heap.size w w2) := B0.out.trans (hb.mono (by omega)); have A2 : Hid (Arr w2 w.heap.size 24 [.int .i64 t.k, .int .i64 t.n, .slice a t.ks.length c]) := (⟨by rw [hb.block _ (by omega)]; exact A0.out.b⟩); have L2 : Hid (Ls w2 Any (.slice p2 l.length c2) l) := Ls.of_own hown; have m1 := True.intro; clear m0 hown hb)
    | (go_at_call 31; refine (hP.out w3 _ _ B3.out L3.out K3.out).mono ?_; rintro e w4 ⟨vs4, n4, rfl, hT4, hb4⟩; obtain ⟨a4, c4, rfl⟩ := hT4.form; have X4 : Hid (Arr (w4.alloc (.cells #[.int .i64 r.k, .int .i64 r.n, .slice a4 r.ks.length c4] 24)) w4.heap.size 24 [.int .i64 r.k, .int .i64 r.n, .slice a4 r.ks.length c4]) := (⟨heap_alloc_at _ _⟩); have A4 : Hid (Arr (w4.alloc (.cells #[.int .i64 r.k, .int .i64 r.n, .slice a4 r.ks.length c4] 24)) w.heap.size 24 _) := (A3.out.stays hb4).stays (bl_alloc (Below.refl _ _) _); have B4 : Hid (Below w.heap.size w (w4.alloc (.cells #[.int .i64 r.k, .int .i64 r.n, .slice a4 r.ks.length c4] 24))) := bl_alloc (bl_tr B3.out hb4) _; have L4 : Hid (Ls (w4.alloc (.cells #[.int .i64 r.k, .int .i64 r.n, .slice a4 r.ks.length c4] 24)) Any _ l) := (L3.out.below hb4).below (bl_alloc (Below.refl _ _) _); have T4 : Hid (TAt (w4.alloc (.cells #[.int .i64 r.k, .int .i64 r.n, .slice a4 r.ks.length c4] 24)) Any n4 _ r) := hT4.below (bl_alloc (Below.refl _ _) _); have z4 := A4.out.cell; clear hT4 hb4)
    | (go_at_call 32; refine (hR.out _ B4.out).mono ?_; rintro e w6 ⟨vs6, n6, rfl, hT6, hb6⟩; obtain ⟨a6, c6, rfl⟩ := hT6.form; have X6 : Hid (Arr w6 w4.heap.size 24 _) := X4.out.stays hb6; have B6 : Hid (Below w.heap.size w w6) := bl_tr B4.out hb6; have L6 : Hid (Ls w6 Any _ l) := L4.out.below hb6; have T6 : Hid (TAt w6 Any n4 _ r) := T4.out.below hb6; have U6 : Hid (TAt w6 Any n6 _ r) := hT6; have z6 := X6.out.cell; have z7 := X6.out.lt; have z8 : ¬ w4.heap.size = w6.heap.size := (by omega); have b7 : Hid (∀ o, Below w6.heap.size w6 (w6.alloc o)) := (fun o => bl_alloc (Below.refl _ _) o); clear hT6 hb6)
    | (go_at_call 28; refine (hS.out _ n4 n6 [_, _, _] [_, _, _] (T6.out.below (b7.out _)) (U6.out.below (b7.out _))).mono ?_; rintro e w8 ⟨rfl, hb8⟩; have B8 : Hid (Below w.heap.size w w8) := bl_tr (bl_tr B6.out (b7.out _)) hb8; have L8 : Hid (Ls w8 Any _ l) := (L6.out.below (b7.out _)).below hb8; clear hb8)
    | (go_at_call 15; refine (hI.out w8 _ B8.out L8.out).mono ?_; rintro e w9 ⟨rfl, hb9⟩; have B9 : Hid (Below w.heap.size w w9) := bl_tr B8.out hb9; clear hb9)
    | (go_at_call 26; refine (hA.out w9 B9.out).mono ?_; rintro e wx ⟨rfl, hbx⟩; have BX := bl_tr B9.out hbx))
  go_ret
  exact ⟨rfl, BX⟩
end Go.Proofs.YtbdohoebpaiecaaDoor
