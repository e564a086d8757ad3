/- measure: how many nodes come of replacing. -/
import Derived.Test.YthijckdhndbdoaaTpB
namespace Go.Proofs.Ythijckdhndbdoaa
open Go.RowKit
set_option linter.unusedVariables false
set_option linter.unusedSimpArgs false

theorem Ev.keepsM {M : Nat} {w w' : World} {own' : Nat → Prop} (h : Ev (fun b => b = M) w own' w') : Keeps (fun b => b ≠ M) w w' := fun b o v hb hv => (h.cell (p := ⟨b, o, none⟩) (World.block_lt_of_cell? w _ hv) hb).trans hv
theorem Rep.stays {M : Nat} {kind : Int} {fv tv : Value} {fr : List Int} {to : List Tp} {K : Nat → Prop} {n : Nat} {s : Int} {w w' : World} (h : Rep M kind fv tv fr to K n s w) (hb : Below w.heap.size w w') : Rep M kind fv tv fr to K n s w' := ⟨h.m.stays hb, h.f.below hb, h.t.below hb, h.len⟩
theorem Rep.ev {M : Nat} {kind : Int} {fv tv : Value} {fr : List Int} {to : List Tp} {n : Nat} {s s' : Int} {w w' : World} {own' : Nat → Prop} (h : Rep M kind fv tv fr to (fun b => b ≠ M) n s w) (he : Ev (fun b => b = M) w own' w') (hm : Mtr M [.int .i64 kind, fv, tv] 81 s' w') : Rep M kind fv tv fr to (fun b => b ≠ M) n s' w' := ⟨hm, h.f.move he.keepsM (fun _ h => h), h.t.move he.keepsM (fun _ h => h), h.len⟩
def IMeas (M : Nat) (kind : Int) (fv tv : Value) (fr : List Int) (to : List Tp) (n : Nat) (s : Int) (own : Nat → Prop) (w : World) : Prop := Rep M kind fv tv fr to (fun b => b ≠ M) n s w ∧ own = (fun b => b = M)
theorem IMeas.steady (M : Nat) (kind : Int) (fv tv : Value) (fr : List Int) (to : List Tp) (n : Nat) : Steady (IMeas M kind fv tv fr to n) := ⟨fun s own w w' h hb => ⟨h.1.stays hb, h.2⟩, fun s own w b h ho => by rw [h.2] at ho; rw [ho]; exact h.1.m.lt⟩

set_option maxHeartbeats 2000000 in
set_option maxRecDepth 100000 in
theorem measure_any (M : Nat) (kind : Int) (fv tv : Value) (fr : List Int) (to : List Tp) (m : Nat) (s : Int) (w : World) (hr : Rep M kind fv tv fr to (fun b => b ≠ M) m s w) (t : Tp) (v : Value) :
    Calls Try.prog 59 #[.pointer (some ⟨M, 0, none⟩), .agg #[.int .i64 t.k, .int .i64 t.n, v]] w fun e w' => e = .returned (.tuple #[.bool (Tp.fMeasure kind fr to s t).2.1, .bool (Tp.fMeasure kind fr to s t).2.2]) ∧ Rep M kind fv tv fr to (fun b => b ≠ M) m (Tp.fMeasure kind fr to s t).1 w' ∧ Ev (fun b => b = M) w (fun b => b = M) w' := by
  have hMl := hr.m.lt
  cases hb : Tp.by kind fr to t.k t.n with
  | none =>
    have hf : Tp.fMeasure kind fr to s t = Tp.fCount s t := by unfold Tp.fMeasure; rw [hb]
    rw [hf]
    have hq : Hid (∀ o, Calls Try.prog 74 #[.pointer (some ⟨M, 0, none⟩), .agg #[.int .i64 t.k, .int .i64 t.n, v]] (w.alloc o) fun e w' => e = .returned (.tuple #[.agg #[.int .i64 0, .int .i64 0, .slice none 0 0], .bool false]) ∧ Below (w.alloc o).heap.size (w.alloc o) w') := fun o => by_no M kind fv tv fr to _ m s _ (hr.stays (bl_alloc (Below.refl _ _) o)) t.k t.n v hb
    have hc : Hid (∀ wz, Below w.heap.size w wz → Calls Try.prog 72 #[.pointer (some ⟨M, 0, none⟩), .agg #[.int .i64 t.k, .int .i64 t.n, v]] wz fun e w' => e = .returned (.tuple #[.bool true, .bool (decide (wrap64 (s + 1) ≤ 1000))]) ∧ Rep M kind fv tv fr to (fun b => b ≠ M) m (wrap64 (s + 1)) w' ∧ Ev (fun b => b = M) wz (fun b => b = M) w') := fun wz hz => (count_any M _ _ s wz _ _ _ (hr.stays hz).m).mono fun e w' ⟨h1, h2, h3⟩ => ⟨h1, (hr.stays hz).ev h3 h2, h3⟩
    clear hf hb hr
    go_enter Try.func59, Try.ntmps59
    go_wp2_with (first | (go_at_call 74; refine (hq.out _).mono ?_; rintro e w2 ⟨rfl, hb2⟩; have hb3 : Below w.heap.size w w2 := bl_tr (bl_alloc (Below.refl _ _) _) hb2; have k0 : ∀ o, (w2.alloc o).cell? ⟨w.heap.size, 0, none⟩ = some (.int .i64 t.k) := fun o => ((bl_alloc hb2 o).cell (p := ⟨w.heap.size, 0, none⟩) (show w.heap.size < _ by simp)).trans (by simp [go_sem]); have k1 : ∀ o, (w2.alloc o).cell? ⟨w.heap.size, 1, none⟩ = some (.int .i64 t.n) := fun o => ((bl_alloc hb2 o).cell (p := ⟨w.heap.size, 1, none⟩) (show w.heap.size < _ by simp)).trans (by simp [go_sem]); have k2 : ∀ o, (w2.alloc o).cell? ⟨w.heap.size, 2, none⟩ = some (v) := fun o => ((bl_alloc hb2 o).cell (p := ⟨w.heap.size, 2, none⟩) (show w.heap.size < _ by simp)).trans (by simp [go_sem]); clear hb2))
    go_region_with (go_at_call 72; refine (hc.out _ (bl_dr (bl_alloc hb3 _))).mono ?_; rintro e w3 ⟨rfl, hr3, he3⟩)
    all_goals go_wp2
    all_goals go_ret2
    all_goals exact ⟨rfl, hr3, (Ev.of_below (bl_dr (bl_alloc hb3 _))).trans he3⟩
  | some u =>
    have hf : Tp.fMeasure kind fr to s t = ((Tp.walk Tp.fCount u s).1, false, (Tp.walk Tp.fCount u s).2) := by unfold Tp.fMeasure; rw [hb]
    rw [hf]
    obtain ⟨a, c, hT, hq0⟩ := by_yes M kind fv tv fr to _ m s w hr t.k t.n v u hb
    have hq : Hid (∀ o, Calls Try.prog 74 #[.pointer (some ⟨M, 0, none⟩), .agg #[.int .i64 t.k, .int .i64 t.n, v]] (w.alloc o) fun e w' => e = .returned (.tuple #[.agg #[.int .i64 u.k, .int .i64 u.n, .slice a u.ks.length c], .bool true]) ∧ Below (w.alloc o).heap.size (w.alloc o) w') := fun o => hq0 _ (bl_alloc (Below.refl _ _) o)
    have hc : Hid (∀ wz, Below w.heap.size w wz → Calls Try.prog 51 #[.agg #[.int .i64 u.k, .int .i64 u.n, .slice a u.ks.length c], .func (.func 72) #[.pointer (some ⟨M, 0, none⟩)] #[]] wz fun e w' => e = .returned (.bool (Tp.walk Tp.fCount u s).2) ∧ Rep M kind fv tv fr to (fun b => b ≠ M) m (Tp.walk Tp.fCount u s).1 w' ∧ Ev (fun b => b = M) wz (fun b => b = M) w') := fun wz hz => (walk_count0 M _ _ s wz m _ u (hr.stays hz).m (hT.below hz)).mono fun e w' ⟨h1, h2, h3⟩ => ⟨h1, (hr.stays hz).ev h3 h2, h3⟩
    clear hf hb hr hT hq0
    generalize Tp.walk Tp.fCount u s = q at hc
    obtain ⟨q1, q2⟩ := q
    simp only at hc
    go_enter Try.func59, Try.ntmps59
    go_wp2_with (first | (go_at_call 74; refine (hq.out _).mono ?_; rintro e w2 ⟨rfl, hb2⟩; have hb3 : Below w.heap.size w w2 := bl_tr (bl_alloc (Below.refl _ _) _) hb2; clear hb2))
    go_region_with (go_at_call 51; refine (hc.out _ (bl_dr (bl_alloc hb3 _))).mono ?_; rintro e w3 ⟨rfl, hr3, he3⟩)
    all_goals go_wp2
    all_goals go_ret2
    all_goals exact ⟨rfl, hr3, (Ev.of_below (bl_dr (bl_alloc hb3 _))).trans he3⟩
theorem measure_see (M : Nat) (kind : Int) (fv tv : Value) (fr : List Int) (to : List Tp) (m : Nat) (o0 : Nat → Prop) (w0 : World) (n : Nat) : SeeOf 59 #[.pointer (some ⟨M, 0, none⟩)] (Tp.fMeasure kind fr to) (IMeas M kind fv tv fr to m) o0 w0 n := by
  intro w own s vs t hI hE hT
  obtain ⟨a, c, rfl⟩ := hT.form
  obtain ⟨hM, rfl⟩ := hI
  refine (measure_any M kind fv tv fr to m s w hM t _).mono ?_
  rintro e w' ⟨rfl, h1, h2⟩
  exact ⟨rfl, _, ⟨h1, rfl⟩, h2⟩
theorem enters_measure : Enters 59 := enters_of Try.func59 (by kernel_rfl) rfl
theorem walk_measure (M : Nat) (kind : Int) (fv tv : Value) (fr : List Int) (to : List Tp) (m : Nat) (s : Int) (w : World) (n : Nat) (vs : List Value) (t : Tp) (h : Rep M kind fv tv fr to (fun b => b ≠ M) m s w) (h0 : 0 ≤ s) (h1 : s ≤ 1000) (hT : TAt w (fun b => b ≠ M) n vs t) :
    Calls Try.prog 51 #[.agg vs.toArray, .func (.func 59) #[.pointer (some ⟨M, 0, none⟩)] #[]] w fun e w' => e = .returned (.bool (Tp.upto (s + (Tp.put kind fr to t).cnt)).2) ∧ Rep M kind fv tv fr to (fun b => b ≠ M) m (Tp.upto (s + (Tp.put kind fr to t).cnt)).1 w' ∧ Ev (fun b => b = M) w (fun b => b = M) w' := by
  have hT1 : TAt w (Free (fun b => b = M) w) n vs t := TAt.oldK hT
  refine (walk_any _ _ _ (IMeas M kind fv tv fr to m) (fun b => b = M) w (IMeas.steady M kind fv tv fr to m) enters_measure (measure_see M kind fv tv fr to m _ w) n w (fun b => b = M) s vs t ⟨h, rfl⟩ (Ev.refl _ _) hT1).mono ?_
  rintro e w' ⟨rfl, own', ⟨hI, rfl⟩, hE⟩
  rw [Tp.walk_measure kind fr to t s h0 h1] at hI ⊢
  exact ⟨rfl, hI, hE⟩
end Go.Proofs.Ythijckdhndbdoaa
