/- fresh, replaced. -/
import Derived.Test.YtknlpeloaapaiaaTpV2
namespace Go.Proofs.Ytknlpeloaapaiaa
open Go.RowKit
set_option linter.unusedVariables false
set_option linter.unusedSimpArgs false

def Made (w : World) (t : Tp) (e : Ending) (w' : World) : Prop := ∃ vs' n', e = .returned (.agg vs'.toArray) ∧ TAt w' (fun b => w.heap.size ≤ b) n' vs' t ∧ Below w.heap.size w w'
theorem Made.form {w w' : World} {t : Tp} {e : Ending} (h : Made w t e w') : ∃ a n' c, e = .returned (.agg #[.int .i64 t.k, .int .i64 t.n, .slice a t.ks.length c]) ∧ TAt w' (fun b => w.heap.size ≤ b) n' [.int .i64 t.k, .int .i64 t.n, .slice a t.ks.length c] t ∧ Below w.heap.size w w' := by
  obtain ⟨vs', n', rfl, h1, h2⟩ := h
  obtain ⟨a, c, rfl⟩ := h1.form
  exact ⟨a, n', c, rfl, h1, h2⟩
def FreshOf (n : Nat) : Prop := ∀ (w : World) (vs : List Value) (t : Tp), TAt w Any n vs t → t.cnt ≤ 1000 → Calls Try.prog 100 #[.agg vs.toArray] w (Made w t)
theorem enters_fresh : Enters 100 := enters_of Try.func100 (by kernel_rfl) rfl
theorem FreshOf.made {n : Nat} (h : FreshOf n) (w : World) : MadeOf 100 #[] id w n := fun wz vs t hz hT hc => (h wz vs t (hT.below hz).any hc).mono fun e w' q => q
theorem Tp.eta (t : Tp) : Tp.mk t.k t.n t.ks = t := by cases t; rfl
theorem Tp.cnt_ks (t : Tp) : t.cnt = Tp.cntL t.ks + 1 := by cases t; rw [Tp.cnt]; rfl
/-- What was made is stored in the box of the answer. -/
theorem made_store {w W2 w' : World} {t : Tp} {n' : Nat} {vs : List Value} {u0 u1 u2 : Value} (hb : Below w.heap.size w W2) (hs : w.heap.size + 2 ≤ W2.heap.size) (h1 : TAt w' (fun b => W2.heap.size ≤ b) n' vs t) (h2 : Below W2.heap.size W2 w') :
    TAt (((w'.setCell ⟨w.heap.size + 1, 0, none⟩ u0).setCell ⟨w.heap.size + 1, 1, none⟩ u1).setCell ⟨w.heap.size + 1, 2, none⟩ u2) (fun b => w.heap.size ≤ b) n' vs t ∧ Below w.heap.size w (((w'.setCell ⟨w.heap.size + 1, 0, none⟩ u0).setCell ⟨w.heap.size + 1, 1, none⟩ u1).setCell ⟨w.heap.size + 1, 2, none⟩ u2) := by
  have hK : ∀ (W : World) j u, Keeps (fun b => W2.heap.size ≤ b) W (W.setCell ⟨w.heap.size + 1, j, none⟩ u) := fun W j u => Keeps.set (K := fun b => W2.heap.size ≤ b) (p := ⟨w.heap.size + 1, j, none⟩) (fun h => by simp at h; omega) u
  exact ⟨h1.move (((hK _ _ _).trans (hK _ _ _)).trans (hK _ _ _)) (fun b hb => by omega), bl_set _ _ (bl_set _ _ (bl_set _ _ (bl_tr hb h2) (by show _ ≤ w.heap.size + 1; omega)) (by show _ ≤ w.heap.size + 1; omega)) (by show _ ≤ w.heap.size + 1; omega)⟩
theorem res_box (w : World) (o : Obj) : Arr ((w.alloc o).alloc (.cells #[.int .i64 0, .int .i64 0, .slice none 0 0] 24)) (w.heap.size + 1) 24 [.int .i64 0, .int .i64 0, .slice none 0 0] := ⟨by have := heap_alloc_at (w.alloc o) (.cells #[.int .i64 0, .int .i64 0, .slice none 0 0] 24); rw [size_alloc] at this; exact this⟩

set_option maxHeartbeats 1000000 in
set_option maxRecDepth 100000 in
theorem fresh_step (n : Nat) (ih : FreshOf n) : FreshOf (n + 1) := by
  intro w vs t hT hc
  have hq : Hid (∀ o o', Calls Try.prog 101 #[.agg vs.toArray, .func (.func 100) #[] #[]] ((w.alloc o).alloc o') (Made ((w.alloc o).alloc o') t)) := by
    intro o o'
    refine (renewed_any 100 #[] id n _ enters_fresh (ih.made _) vs t (TAt.old (hT.below (bl_alloc (bl_alloc (Below.refl _ _) _) _))) (by rw [List.map_id]; have := Tp.cnt_ks t; omega)).mono ?_
    rintro e w' ⟨vs', n', rfl, h1, h2⟩
    rw [List.map_id, Tp.eta] at h1
    exact ⟨vs', n', rfl, h1, h2⟩
  obtain ⟨a, c, rfl⟩ := hT.form
  clear hT hc ih
  go_enter Try.func100, Try.ntmps100
  go_wp2_with (go_at_call 101; refine (hq.out _ _).mono ?_; intro e w3 hm3; obtain ⟨a3, n3, c3, rfl, hT3, hb3⟩ := hm3.form; clear hm3; have HA : Hid _ := (res_box w _).stays hb3; have k1 := HA.out.cell; have k2 := HA.out.frozen)
  refine bodyPost_ret (v := .agg #[.int .i64 t.k, .int .i64 t.n, .slice a3 t.ks.length c3]) (by rw [results_cell1 (fn := Try.f100) (p := 2) (ty := 24) (by kernel_rfl)]; simp [go_sem, k1]) rfl ?_
  obtain ⟨h1, h2⟩ := made_store (bl_alloc (bl_alloc (Below.refl _ _) _) _) (by rw [size_alloc, size_alloc]; omega) hT3 hb3
  exact ⟨[_, _, _], n3, rfl, h1, h2⟩
theorem fresh_any : ∀ n, FreshOf n
  | 0 => fun w vs t hT _ => hT.elim
  | n + 1 => fresh_step n (fresh_any n)
theorem enters_replaced : Enters 71 := enters_of Try.func71 (by kernel_rfl) rfl
def ReplOf (M : Nat) (kind : Int) (fv tv : Value) (fr : List Int) (to : List Tp) (m n : Nat) : Prop := ∀ (s : Int) (w : World) (vs : List Value) (t : Tp), Rep M kind fv tv fr to Any m s w → TAt w Any n vs t → (Tp.put kind fr to t).cnt ≤ 1000 → Calls Try.prog 71 #[.pointer (some ⟨M, 0, none⟩), .agg vs.toArray] w (Made w (Tp.put kind fr to t))
theorem Tp.putL_map (kind : Int) (fr : List Int) (to : List Tp) : ∀ l, Tp.putL kind fr to l = l.map (Tp.put kind fr to)
  | [] => by rw [Tp.putL]; rfl
  | x :: r => by rw [Tp.putL, Tp.putL_map kind fr to r]; rfl
theorem Tp.put_none {kind : Int} {fr : List Int} {to : List Tp} {t : Tp} (h : Tp.by kind fr to t.k t.n = none) : Tp.put kind fr to t = .mk t.k t.n (t.ks.map (Tp.put kind fr to)) := by
  obtain ⟨k, n, ks⟩ := t
  simp only [Tp.k, Tp.n, Tp.ks] at h ⊢
  rw [Tp.put, h, Tp.putL_map]
theorem Tp.put_some {kind : Int} {fr : List Int} {to : List Tp} {t u : Tp} (h : Tp.by kind fr to t.k t.n = some u) : Tp.put kind fr to t = u := by
  obtain ⟨k, n, ks⟩ := t
  simp only [Tp.k, Tp.n] at h
  rw [Tp.put, h]
theorem Rep.stays0 {M : Nat} {kind : Int} {fv tv : Value} {fr : List Int} {to : List Tp} {K : Nat → Prop} {n : Nat} {s : Int} {w w' : World} (h : Rep M kind fv tv fr to K n s w) (hb : Below w.heap.size w w') : Rep M kind fv tv fr to K n s w' := ⟨h.m.stays hb, h.f.below hb, h.t.below hb, h.len⟩

set_option maxHeartbeats 1000000 in
set_option maxRecDepth 100000 in
theorem replaced_step (M : Nat) (kind : Int) (fv tv : Value) (fr : List Int) (to : List Tp) (m n : Nat) (ih : ReplOf M kind fv tv fr to m n) : ReplOf M kind fv tv fr to m (n + 1) := by
  intro s w vs t hr hT hc
  cases hb : Tp.by kind fr to t.k t.n with
  | none =>
    rw [Tp.put_none hb] at hc ⊢
    have hq : Hid (∀ o o', Calls Try.prog 99 #[.pointer (some ⟨M, 0, none⟩), .agg vs.toArray] ((w.alloc o).alloc o') fun e w' => e = .returned (.tuple #[.agg #[.int .i64 0, .int .i64 0, .slice none 0 0], .bool false]) ∧ Below ((w.alloc o).alloc o').heap.size ((w.alloc o).alloc o') w') := by
      intro o o'
      obtain ⟨a, c, rfl⟩ := hT.form
      exact by_no M kind fv tv fr to _ m s _ (hr.stays0 (bl_alloc (bl_alloc (Below.refl _ _) _) _)) t.k t.n _ hb
    have hq2 : Hid (∀ wz, Below w.heap.size w wz → Calls Try.prog 101 #[.agg vs.toArray, .func (.func 71) #[.pointer (some ⟨M, 0, none⟩)] #[]] wz (Made wz (.mk t.k t.n (t.ks.map (Tp.put kind fr to))))) := by
      intro wz hz
      refine (renewed_any 71 #[.pointer (some ⟨M, 0, none⟩)] (Tp.put kind fr to) n wz enters_replaced ?_ vs t (TAt.old (hT.below hz)) (by rw [Tp.cnt] at hc; omega)).mono fun e w' q => q
      intro wy vs' t' hy hT' hc'
      exact (ih s wy vs' t' ((hr.stays0 hz).stays0 hy) (hT'.below hy).any hc').mono fun e w' q => q
    obtain ⟨a, c, rfl⟩ := hT.form
    clear hT hc ih hr hb
    go_enter Try.func71, Try.ntmps71
    go_wp2_with (first | (go_at_call 99; refine (hq.out _ _).mono ?_; rintro e w2 ⟨rfl, hb2⟩; have k0 : ∀ o, (w2.alloc o).cell? ⟨w.heap.size, 0, none⟩ = some (.int .i64 t.k) := fun o => ((bl_alloc hb2 o).cell (p := ⟨w.heap.size, 0, none⟩) (show w.heap.size < _ by simp; omega)).trans (by simp [go_sem]); have k1 : ∀ o, (w2.alloc o).cell? ⟨w.heap.size, 1, none⟩ = some (.int .i64 t.n) := fun o => ((bl_alloc hb2 o).cell (p := ⟨w.heap.size, 1, none⟩) (show w.heap.size < _ by simp; omega)).trans (by simp [go_sem]); have k2 : ∀ o, (w2.alloc o).cell? ⟨w.heap.size, 2, none⟩ = some (.slice a t.ks.length c) := fun o => ((bl_alloc hb2 o).cell (p := ⟨w.heap.size, 2, none⟩) (show w.heap.size < _ by simp; omega)).trans (by simp [go_sem])) | (go_at_call 101; refine (hq2.out _ (bl_alloc (bl_tr (bl_alloc (bl_alloc (Below.refl _ _) _) _) hb2) _)).mono ?_; intro e w3 hm3; obtain ⟨a3, n3, c3, rfl, hT3, hb3⟩ := hm3.form; clear hm3; have HA : Hid _ := (((res_box w _).stays hb2).stays (bl_alloc (Below.refl _ _) _)).stays hb3; have k3 := HA.out.cell; have k4 := HA.out.frozen))
    refine bodyPost_ret (v := .agg #[.int .i64 (Tp.mk t.k t.n (t.ks.map (Tp.put kind fr to))).k, .int .i64 (Tp.mk t.k t.n (t.ks.map (Tp.put kind fr to))).n, .slice a3 (Tp.mk t.k t.n (t.ks.map (Tp.put kind fr to))).ks.length c3]) (by rw [results_cell1 (fn := Try.f71) (p := 4) (ty := 24) (by kernel_rfl)]; simp [go_sem, k3]) rfl ?_
    obtain ⟨h1, h2⟩ := made_store (bl_alloc (bl_tr (bl_alloc (bl_alloc (Below.refl _ _) _) _) hb2) _) (by have := hb2.size; rw [size_alloc, size_alloc] at this; rw [size_alloc]; omega) hT3 hb3
    exact ⟨[_, _, _], n3, rfl, h1, h2⟩
  | some u =>
    rw [Tp.put_some hb] at hc ⊢
    obtain ⟨a, c, hTu, hq0⟩ : ∃ a c, TAt w Any m [.int .i64 u.k, .int .i64 u.n, .slice a u.ks.length c] u ∧ ∀ wz, Below w.heap.size w wz → Calls Try.prog 99 #[.pointer (some ⟨M, 0, none⟩), .agg vs.toArray] wz fun e w' => e = .returned (.tuple #[.agg #[.int .i64 u.k, .int .i64 u.n, .slice a u.ks.length c], .bool true]) ∧ Below wz.heap.size wz w' := by
      obtain ⟨a, c, rfl⟩ := hT.form
      exact by_yes M kind fv tv fr to Any m s w hr t.k t.n _ u hb
    have hq : Hid (∀ o o', Calls Try.prog 99 #[.pointer (some ⟨M, 0, none⟩), .agg vs.toArray] ((w.alloc o).alloc o') fun e w' => e = .returned (.tuple #[.agg #[.int .i64 u.k, .int .i64 u.n, .slice a u.ks.length c], .bool true]) ∧ Below ((w.alloc o).alloc o').heap.size ((w.alloc o).alloc o') w') := fun o o' => hq0 _ (bl_alloc (bl_alloc (Below.refl _ _) _) _)
    have hq2 : Hid (∀ wz, Below w.heap.size w wz → Calls Try.prog 100 #[.agg #[.int .i64 u.k, .int .i64 u.n, .slice a u.ks.length c]] wz (Made wz u)) := fun wz hz => fresh_any m wz _ u (hTu.below hz) hc
    obtain ⟨a', c', rfl⟩ := hT.form
    clear hT hc ih hr hb hq0 hTu
    go_enter Try.func71, Try.ntmps71
    go_wp2_with (first | (go_at_call 99; refine (hq.out _ _).mono ?_; rintro e w2 ⟨rfl, hb2⟩) | (go_at_call 100; refine (hq2.out _ (bl_alloc (bl_tr (bl_alloc (bl_alloc (Below.refl _ _) _) _) hb2) _)).mono ?_; intro e w3 hm3; obtain ⟨a3, n3, c3, rfl, hT3, hb3⟩ := hm3.form; clear hm3; have HA : Hid _ := (((res_box w _).stays hb2).stays (bl_alloc (Below.refl _ _) _)).stays hb3; have k3 := HA.out.cell; have k4 := HA.out.frozen))
    refine bodyPost_ret (v := .agg #[.int .i64 u.k, .int .i64 u.n, .slice a3 u.ks.length c3]) (by rw [results_cell1 (fn := Try.f71) (p := 4) (ty := 24) (by kernel_rfl)]; simp [go_sem, k3]) rfl ?_
    obtain ⟨h1, h2⟩ := made_store (bl_alloc (bl_tr (bl_alloc (bl_alloc (Below.refl _ _) _) _) hb2) _) (by have := hb2.size; rw [size_alloc, size_alloc] at this; rw [size_alloc]; omega) hT3 hb3
    exact ⟨[_, _, _], n3, rfl, h1, h2⟩
theorem replaced_any (M : Nat) (kind : Int) (fv tv : Value) (fr : List Int) (to : List Tp) (m : Nat) : ∀ n, ReplOf M kind fv tv fr to m n
  | 0 => fun s w vs t _ hT _ => hT.elim
  | n + 1 => replaced_step M kind fv tv fr to m n (replaced_any M kind fv tv fr to m n)
end Go.Proofs.Ytknlpeloaapaiaa
