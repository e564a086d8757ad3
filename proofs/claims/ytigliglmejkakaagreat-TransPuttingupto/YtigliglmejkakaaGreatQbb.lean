/- measure: how many nodes come of replacing. Replace. -/
import Derived.Test.YtigliglmejkakaaGreatQac
import Derived.Test.YtigliglmejkakaaGreatQad
namespace Go.Proofs.YtigliglmejkakaaGreat
open Go.RowKit
set_option linter.unusedVariables false
set_option linter.unusedSimpArgs false

theorem Ev.keepsM {M : Nat} {w w' : World} {own' : Nat → Prop} (h : Ev (fun b => b = M) w own' w') : Keeps (fun b => b ≠ M) w w' := fun b o v hb hv => (h.cell (p := ⟨b, o, none⟩) (World.block_lt_of_cell? w _ hv) hb).trans hv
theorem Rep.stays {M : Nat} {kind : Int} {fv tv : Value} {fr : List Int} {to : List Tp} {K : Nat → Prop} {n : Nat} {s : Int} {w w' : World} (h : Rep M kind fv tv fr to K n s w) (hb : Below w.heap.size w w') : Rep M kind fv tv fr to K n s w' := ⟨h.m.stays hb, h.f.below hb, h.t.below hb, h.len⟩
theorem Rep.ev {M : Nat} {kind : Int} {fv tv : Value} {fr : List Int} {to : List Tp} {n : Nat} {s s' : Int} {w w' : World} {own' : Nat → Prop} (h : Rep M kind fv tv fr to (fun b => b ≠ M) n s w) (he : Ev (fun b => b = M) w own' w') (hm : Mtr M [.int .i64 kind, fv, tv] 92 s' w') : Rep M kind fv tv fr to (fun b => b ≠ M) n s' w' := ⟨hm, h.f.move he.keepsM (fun _ h => h), h.t.move he.keepsM (fun _ h => h), h.len⟩
def IMeas (M : Nat) (kind : Int) (fv tv : Value) (fr : List Int) (to : List Tp) (n : Nat) (s : Int) (own : Nat → Prop) (w : World) : Prop := Rep M kind fv tv fr to (fun b => b ≠ M) n s w ∧ own = (fun b => b = M)
theorem IMeas.steady (M : Nat) (kind : Int) (fv tv : Value) (fr : List Int) (to : List Tp) (n : Nat) : Steady (IMeas M kind fv tv fr to n) := ⟨fun s own w w' h hb => ⟨h.1.stays hb, h.2⟩, fun s own w b h ho => by rw [h.2] at ho; rw [ho]; exact h.1.m.lt⟩

set_option maxHeartbeats 2000000 in
set_option maxRecDepth 100000 in
theorem measure_any (M : Nat) (kind : Int) (fv tv : Value) (fr : List Int) (to : List Tp) (m : Nat) (s : Int) (w : World) (hr : Rep M kind fv tv fr to (fun b => b ≠ M) m s w) (t : Tp) (v : Value) :
    Calls Tryz.prog 31 #[.pointer (some ⟨M, 0, none⟩), .agg #[.int .i64 t.k, .int .i64 t.n, v]] w fun e w' => e = .returned (.tuple #[.bool (Tp.fMeasure kind fr to s t).2.1, .bool (Tp.fMeasure kind fr to s t).2.2]) ∧ Rep M kind fv tv fr to (fun b => b ≠ M) m (Tp.fMeasure kind fr to s t).1 w' ∧ Ev (fun b => b = M) w (fun b => b = M) w' := by
  have hMl := hr.m.lt
  cases hb : Tp.by kind fr to t.k t.n with
  | none =>
    have hf : Tp.fMeasure kind fr to s t = Tp.fCount s t := by unfold Tp.fMeasure; rw [hb]
    rw [hf]
    have hq : Hid (∀ o, Calls Tryz.prog 64 #[.pointer (some ⟨M, 0, none⟩), .agg #[.int .i64 t.k, .int .i64 t.n, v]] (w.alloc o) fun e w' => e = .returned (.tuple #[.agg #[.int .i64 0, .int .i64 0, .slice none 0 0], .bool false]) ∧ Below (w.alloc o).heap.size (w.alloc o) w') := fun o => by_no M kind fv tv fr to _ m s _ (hr.stays (bl_alloc (Below.refl _ _) o)) t.k t.n v hb
    have hc : Hid (∀ wz, Below w.heap.size w wz → Calls Tryz.prog 65 #[.pointer (some ⟨M, 0, none⟩), .agg #[.int .i64 t.k, .int .i64 t.n, v]] wz fun e w' => e = .returned (.tuple #[.bool true, .bool (decide (wrap64 (s + 1) ≤ 1000))]) ∧ Rep M kind fv tv fr to (fun b => b ≠ M) m (wrap64 (s + 1)) w' ∧ Ev (fun b => b = M) wz (fun b => b = M) w') := fun wz hz => (count_any M _ _ s wz _ _ _ (hr.stays hz).m).mono fun e w' ⟨h1, h2, h3⟩ => ⟨h1, (hr.stays hz).ev h3 h2, h3⟩
    clear hf hb hr
    go_enter Tryz.func31, Tryz.ntmps31
    go_wp2_with (first | (go_at_call 64; refine (hq.out _).mono ?_; rintro e w2 ⟨rfl, hb2⟩; have hb3 : Below w.heap.size w w2 := bl_tr (bl_alloc (Below.refl _ _) _) hb2; have k0 : ∀ o, (w2.alloc o).cell? ⟨w.heap.size, 0, none⟩ = some (.int .i64 t.k) := fun o => ((bl_alloc hb2 o).cell (p := ⟨w.heap.size, 0, none⟩) (show w.heap.size < _ by simp)).trans (by simp [go_sem]); have k1 : ∀ o, (w2.alloc o).cell? ⟨w.heap.size, 1, none⟩ = some (.int .i64 t.n) := fun o => ((bl_alloc hb2 o).cell (p := ⟨w.heap.size, 1, none⟩) (show w.heap.size < _ by simp)).trans (by simp [go_sem]); have k2 : ∀ o, (w2.alloc o).cell? ⟨w.heap.size, 2, none⟩ = some (v) := fun o => ((bl_alloc hb2 o).cell (p := ⟨w.heap.size, 2, none⟩) (show w.heap.size < _ by simp)).trans (by simp [go_sem]); clear hb2))
    go_region_with (go_at_call 65; refine (hc.out _ (bl_dr (bl_alloc hb3 _))).mono ?_; rintro e w3 ⟨rfl, hr3, he3⟩)
    all_goals go_wp2
    all_goals go_ret2
    all_goals exact ⟨rfl, hr3, (Ev.of_below (bl_dr (bl_alloc hb3 _))).trans he3⟩
  | some u =>
    have hf : Tp.fMeasure kind fr to s t = ((Tp.walk Tp.fCount u s).1, false, (Tp.walk Tp.fCount u s).2) := by unfold Tp.fMeasure; rw [hb]
    rw [hf]
    obtain ⟨a, c, hT, hq0⟩ := by_yes M kind fv tv fr to _ m s w hr t.k t.n v u hb
    have hq : Hid (∀ o, Calls Tryz.prog 64 #[.pointer (some ⟨M, 0, none⟩), .agg #[.int .i64 t.k, .int .i64 t.n, v]] (w.alloc o) fun e w' => e = .returned (.tuple #[.agg #[.int .i64 u.k, .int .i64 u.n, .slice a u.ks.length c], .bool true]) ∧ Below (w.alloc o).heap.size (w.alloc o) w') := fun o => hq0 _ (bl_alloc (Below.refl _ _) o)
    have hc : Hid (∀ wz, Below w.heap.size w wz → Calls Tryz.prog 30 #[.agg #[.int .i64 u.k, .int .i64 u.n, .slice a u.ks.length c], .func (.func 65) #[.pointer (some ⟨M, 0, none⟩)] #[]] wz fun e w' => e = .returned (.bool (Tp.walk Tp.fCount u s).2) ∧ Rep M kind fv tv fr to (fun b => b ≠ M) m (Tp.walk Tp.fCount u s).1 w' ∧ Ev (fun b => b = M) wz (fun b => b = M) w') := fun wz hz => (walk_count0 M _ _ s wz m _ u (hr.stays hz).m (hT.below hz)).mono fun e w' ⟨h1, h2, h3⟩ => ⟨h1, (hr.stays hz).ev h3 h2, h3⟩
    clear hf hb hr hT hq0
    generalize Tp.walk Tp.fCount u s = q at hc
    obtain ⟨q1, q2⟩ := q
    simp only at hc
    go_enter Tryz.func31, Tryz.ntmps31
    go_wp2_with (first | (go_at_call 64; refine (hq.out _).mono ?_; rintro e w2 ⟨rfl, hb2⟩; have hb3 : Below w.heap.size w w2 := bl_tr (bl_alloc (Below.refl _ _) _) hb2; clear hb2))
    go_region_with (go_at_call 30; refine (hc.out _ (bl_dr (bl_alloc hb3 _))).mono ?_; rintro e w3 ⟨rfl, hr3, he3⟩)
    all_goals go_wp2
    all_goals go_ret2
    all_goals exact ⟨rfl, hr3, (Ev.of_below (bl_dr (bl_alloc hb3 _))).trans he3⟩
theorem measure_see (M : Nat) (kind : Int) (fv tv : Value) (fr : List Int) (to : List Tp) (m : Nat) (o0 : Nat → Prop) (w0 : World) (n : Nat) : SeeOf 31 #[.pointer (some ⟨M, 0, none⟩)] (Tp.fMeasure kind fr to) (IMeas M kind fv tv fr to m) o0 w0 n := by
  intro w own s vs t hI hE hT
  obtain ⟨a, c, rfl⟩ := hT.form
  obtain ⟨hM, rfl⟩ := hI
  refine (measure_any M kind fv tv fr to m s w hM t _).mono ?_
  rintro e w' ⟨rfl, h1, h2⟩
  exact ⟨rfl, _, ⟨h1, rfl⟩, h2⟩
theorem enters_measure : Enters 31 := enters_of Tryz.func31 (by kernel_rfl) rfl
theorem walk_measure (M : Nat) (kind : Int) (fv tv : Value) (fr : List Int) (to : List Tp) (m : Nat) (s : Int) (w : World) (n : Nat) (vs : List Value) (t : Tp) (h : Rep M kind fv tv fr to (fun b => b ≠ M) m s w) (h0 : 0 ≤ s) (h1 : s ≤ 1000) (hT : TAt w (fun b => b ≠ M) n vs t) :
    Calls Tryz.prog 30 #[.agg vs.toArray, .func (.func 31) #[.pointer (some ⟨M, 0, none⟩)] #[]] w fun e w' => e = .returned (.bool (Tp.upto (s + (Tp.put kind fr to t).cnt)).2) ∧ Rep M kind fv tv fr to (fun b => b ≠ M) m (Tp.upto (s + (Tp.put kind fr to t).cnt)).1 w' ∧ Ev (fun b => b = M) w (fun b => b = M) w' := by
  have hT1 : TAt w (Free (fun b => b = M) w) n vs t := TAt.oldK hT
  refine (walk_any _ _ _ (IMeas M kind fv tv fr to m) (fun b => b = M) w (IMeas.steady M kind fv tv fr to m) enters_measure (measure_see M kind fv tv fr to m _ w) n w (fun b => b = M) s vs t ⟨h, rfl⟩ (Ev.refl _ _) hT1).mono ?_
  rintro e w' ⟨rfl, own', ⟨hI, rfl⟩, hE⟩
  rw [Tp.walk_measure kind fr to t s h0 h1] at hI ⊢
  exact ⟨rfl, hI, hE⟩
end Go.Proofs.YtigliglmejkakaaGreat

namespace Go.Proofs.YtigliglmejkakaaGreat
open Go.RowKit
set_option linter.unusedVariables false
set_option linter.unusedSimpArgs false

def Tp.zero : Tp := .mk 0 0 []
/-- What Replace answers: the type, and the error's number. -/
def Tp.repl (kind : Int) (fr : List Int) (to : List Tp) (t : Tp) : Tp × Int := if fr.length ≠ to.length then (Tp.zero, 1) else if 1000 < (Tp.put kind fr to t).cnt then (Tp.zero, 3) else (Tp.put kind fr to t, 0)
def Repl (w : World) (q : Tp × Int) (e : Ending) (w' : World) : Prop := ∃ vs' n', e = .returned (.tuple #[.agg vs'.toArray, .int .i64 q.2]) ∧ TAt w' (fun b => w.heap.size ≤ b) n' vs' q.1 ∧ Below w.heap.size w w'
theorem TAt.zero (w : World) (K : Nat → Prop) : TAt w K 1 [.int .i64 0, .int .i64 0, .slice none 0 0] Tp.zero := ⟨_, rfl, ⟨by decide, by decide⟩, ⟨by decide, by decide⟩, .inr ⟨rfl, _, _, rfl⟩⟩

set_option maxHeartbeats 2000000 in
set_option maxRecDepth 100000 in
theorem Replace_any (w : World) (n m : Nat) (vs : List Value) (t : Tp) (kind : Int) (fv tv : Value) (fr : List Int) (to : List Tp) (hT : TAt w Any n vs t) (hf : Ls w Any fv fr) (ht : TAtL w Any m tv to) :
    Calls Tryz.prog 11 #[.agg vs.toArray, .int .i64 kind, fv, tv] w (Repl w (Tp.repl kind fr to t)) := by
  obtain ⟨fa, fc, hfv, hfm⟩ := hf.form
  obtain ⟨ta, tc, htv, htm⟩ := ht.form
  unfold maxLen at hfm htm
  by_cases hl : fr.length = to.length
  · have hq : Hid (∀ o o', Calls Tryz.prog 30 #[.agg vs.toArray, .func (.func 31) #[.pointer (some ⟨w.heap.size + 1 + 1, 0, none⟩)] #[]] (((w.alloc o).alloc o').alloc (.cells #[.int .i64 0, .int .i64 kind, fv, tv] 92)) fun e w' => e = .returned (.bool (decide ((Tp.put kind fr to t).cnt ≤ 1000))) ∧ Below w.heap.size w w' ∧ (∀ b, b < w.heap.size + 2 → w'.heap[b]? = ((w.alloc o).alloc o').heap[b]?) ∧ w.heap.size + 3 ≤ w'.heap.size ∧ ∃ s, Rep (w.heap.size + 1 + 1) kind fv tv fr to Any m s w') := by
      intro o o'
      have hb : Below w.heap.size w (((w.alloc o).alloc o').alloc (.cells #[.int .i64 0, .int .i64 kind, fv, tv] 92)) := bl_alloc (bl_alloc (bl_alloc (Below.refl _ _) _) _) _
      have hM : Mtr (w.heap.size + 1 + 1) [.int .i64 kind, fv, tv] 92 0 (((w.alloc o).alloc o').alloc (.cells #[.int .i64 0, .int .i64 kind, fv, tv] 92)) := ⟨by have := heap_alloc_at ((w.alloc o).alloc o') (.cells #[.int .i64 0, .int .i64 kind, fv, tv] 92); rw [size_alloc, size_alloc] at this; exact this⟩
      have hR : Rep (w.heap.size + 1 + 1) kind fv tv fr to (fun b => b ≠ w.heap.size + 1 + 1) m 0 (((w.alloc o).alloc o').alloc (.cells #[.int .i64 0, .int .i64 kind, fv, tv] 92)) :=
        ⟨hM, hf.old.move (Keeps.of_below hb) (fun b h => by omega), (TAtL.old ht).move (Keeps.of_below hb) (fun b h => by omega), hl⟩
      refine (walk_measure (w.heap.size + 1 + 1) kind fv tv fr to m 0 _ n vs t hR (by decide) (by decide) ((TAt.old hT).move (Keeps.of_below hb) (fun b h => by omega))).mono ?_
      rintro e w' ⟨rfl, h1, h2⟩
      refine ⟨?_, hb.trans (h2.below (by simp; omega) (fun b hb => by rw [hb]; omega)), fun b hb2 => ?_, ?_, _, ⟨h1.m, h1.f.any, h1.t.any, h1.len⟩⟩
      · rw [Int.zero_add]
        unfold Tp.upto
        by_cases h : (Tp.put kind fr to t).cnt ≤ 1000
        · rw [if_pos (by omega), decide_eq_true h]
        · rw [if_neg (by omega), decide_eq_false h]
      · rw [h2.block b (by simp; omega) (by omega), Below.heap_alloc _ _ _ (by simp; omega)]
      · have := h2.size; simp at this; omega
    have hq2 : Hid (∀ wz, Below w.heap.size w wz → (∃ s, Rep (w.heap.size + 1 + 1) kind fv tv fr to Any m s wz) → (Tp.put kind fr to t).cnt ≤ 1000 → Calls Tryz.prog 32 #[.pointer (some ⟨w.heap.size + 1 + 1, 0, none⟩), .agg vs.toArray] wz (Made wz (Tp.put kind fr to t))) := fun wz hz ⟨s, hs⟩ hc => replaced_any _ kind fv tv fr to m n s wz vs t hs (hT.below hz) hc
    have hne : ((fr.length : Int) != (to.length : Int)) = false := by simp [hl]
    obtain ⟨a, c, rfl⟩ := hT.form
    subst hfv; subst htv
    have hbx : Hid (∀ o', Arr ((w.alloc (.cells #[.int .i64 t.k, .int .i64 t.n, .slice a t.ks.length c] 24)).alloc o') w.heap.size 24 [.int .i64 t.k, .int .i64 t.n, .slice a t.ks.length c]) := fun o' => Arr.stays ⟨heap_alloc_at _ _⟩ (bl_alloc (Below.refl _ _) _)
    by_cases hc : (Tp.put kind fr to t).cnt ≤ 1000
    · have hrp : Tp.repl kind fr to t = (Tp.put kind fr to t, 0) := by unfold Tp.repl; rw [if_neg (by simp [hl]), if_neg (by omega)]
      rw [hrp]
      rw [decide_eq_true hc] at hq
      have HC : Hid ((Tp.put kind fr to t).cnt ≤ 1000) := hc
      clear hc hrp hf ht hT hl
      go_enter Tryz.func11, Tryz.ntmps11
      go_wp2_with (first | (go_at_call 30; refine (hq.out _ _).mono ?_; rintro e w2 ⟨rfl, hb2, hbl2, hsz2, hrep2⟩; have HX : Hid (Arr w2 w.heap.size 24 [.int .i64 t.k, .int .i64 t.n, .slice a t.ks.length c]) := (⟨by rw [hbl2 _ (by omega)]; exact (hbx.out _).b⟩); have HY : Hid (Arr w2 (w.heap.size + 1) 24 [.int .i64 0, .int .i64 0, .slice none 0 0]) := (⟨by rw [hbl2 _ (by omega)]; exact (res_box w _).b⟩); have k1 := HX.out.cell; have HB2 : Hid (Below w.heap.size w w2) := hb2; have HS2 : Hid (w.heap.size + 3 ≤ w2.heap.size) := hsz2; have HP2 : Hid _ := hrep2; clear hb2 hbl2 hsz2 hrep2) | (go_at_call 32; refine (hq2.out _ HB2.out HP2.out HC.out).mono ?_; intro e w3 hm3; obtain ⟨a3, n3, c3, rfl, hT3, hb3⟩ := hm3.form; clear hm3; have k3 := (HY.out.stays hb3).cell; have k4 := (HY.out.stays hb3).frozen))
      refine bodyPost_ret (v := .tuple #[.agg #[.int .i64 (Tp.put kind fr to t).k, .int .i64 (Tp.put kind fr to t).n, .slice a3 (Tp.put kind fr to t).ks.length c3], .int .i64 0]) (by rw [results_cell_tmp (fn := Tryz.f11) (p := 8) (u := 9) (ty := 24) (by kernel_rfl)]; simp [go_sem, k3]) rfl ?_
      obtain ⟨h1, h2⟩ := made_store HB2.out (by have := HS2.out; omega) hT3 hb3
      exact ⟨[_, _, _], n3, rfl, h1, h2⟩
    · have hrp : Tp.repl kind fr to t = (Tp.zero, 3) := by unfold Tp.repl; rw [if_neg (by simp [hl]), if_pos (by omega)]
      rw [hrp]
      rw [decide_eq_false hc] at hq
      clear hc hrp hf ht hT hl hq2
      go_enter Tryz.func11, Tryz.ntmps11
      go_wp2_with (first | (go_at_call 30; refine (hq.out _ _).mono ?_; rintro e w2 ⟨rfl, hb2, hbl2, hsz2, hrep2⟩; have HY : Hid (Arr w2 (w.heap.size + 1) 24 [.int .i64 0, .int .i64 0, .slice none 0 0]) := (⟨by rw [hbl2 _ (by omega)]; exact (res_box w _).b⟩); have k3 := HY.out.cell; have k4 := HY.out.frozen; clear hbl2 hrep2 hsz2))
      refine bodyPost_ret (v := .tuple #[.agg #[.int .i64 0, .int .i64 0, .slice none 0 0], .int .i64 3]) (by rw [results_cell_tmp (fn := Tryz.f11) (p := 8) (u := 9) (ty := 24) (by kernel_rfl)]; simp [go_sem, k3]) rfl ?_
      exact ⟨[_, _, _], 1, rfl, TAt.zero _ _, by repeat' (first | exact hb2 | with_reducible refine bl_set _ _ ?_ ?_ | (simp; done))⟩
  · have hrp : Tp.repl kind fr to t = (Tp.zero, 1) := by unfold Tp.repl; rw [if_pos hl]
    rw [hrp]
    have hne : ((fr.length : Int) != (to.length : Int)) = true := by simp; omega
    obtain ⟨a, c, rfl⟩ := hT.form
    subst hfv; subst htv
    clear hrp hf ht hT hl
    go_enter Tryz.func11, Tryz.ntmps11
    go_wp2
    refine bodyPost_ret (v := .tuple #[.agg #[.int .i64 0, .int .i64 0, .slice none 0 0], .int .i64 1]) (by rw [results_cell_tmp (fn := Tryz.f11) (p := 8) (u := 9) (ty := 24) (by kernel_rfl)]; simp [go_sem]) rfl ?_
    exact ⟨[_, _, _], 1, rfl, TAt.zero _ _, by repeat' (first | exact Below.refl _ _ | with_reducible refine bl_alloc ?_ _ | with_reducible refine bl_set _ _ ?_ ?_ | (simp; done))⟩
end Go.Proofs.YtigliglmejkakaaGreat
