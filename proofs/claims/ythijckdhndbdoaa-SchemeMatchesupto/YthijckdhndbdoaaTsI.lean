/- Instantiate. -/
import Derived.Deep.RegionHeld
import Derived.Test.YthijckdhndbdoaaTsG
import Derived.Test.YthijckdhndbdoaaTsR
namespace Go.Proofs.Ythijckdhndbdoaa
open Go.RowKit
set_option linter.unusedVariables false
set_option linter.unusedSimpArgs false

/-- A box's cells, and what was there, stay. -/
def Hs (B : Nat) (bx : List Value) (W1 w' : World) : Prop := (∀ j : Nat, w'.cell? ⟨B, j, none⟩ = bx[j]?) ∧ B < w'.heap.size ∧ Below W1.heap.size W1 w'
theorem Hs.keep {B : Nat} {bx : List Value} {W1 w' w'' : World} (hb : Below w'.heap.size w' w'') (h : Hs B bx W1 w') : Hs B bx W1 w'' :=
  ⟨fun j => (hb.cell (p := ⟨B, j, none⟩) h.2.1).trans (h.1 j), Nat.lt_of_lt_of_le h.2.1 hb.size, bl_tr h.2.2 hb⟩
theorem results_cell3 {fn : Func} {p a b : Tmp} {ty : TypeId} (h : fn.results = #[.cell p ty, .tmp a, .tmp b]) (tmps : Array Value) (P : Program) (w : World) :
    (results fn tmps).run P w = ((asAddr (tmps.getD p undef)).run P w).andThen fun ad w₁ => ((loadVar ty ad).run P w₁).andThen fun v w₂ => .ok (.tuple #[v, tmps.getD a undef, tmps.getD b undef]) w₂ := by
  simp only [results, h]
  simp [Sem.run_bind, Result.andThen]

/-- A box that is read, the answer's box, what was there. -/
def SI (w : World) (B B' : Nat) (T : TypeId) (w' : World) : Prop := (∃ u0 u1 u2, Arr w' B' T [u0, u1, u2]) ∧ B < w'.heap.size ∧ B ≠ B' ∧ w.heap.size ≤ B' ∧ Below w.heap.size w w'
theorem keepI {w w' w'' : World} {B B' : Nat} {T : TypeId} {bx : List Value} (hb : Below w'.heap.size w' w'') (h : (∀ j : Nat, w'.cell? ⟨B, j, none⟩ = bx[j]?) ∧ SI w B B' T w') : (∀ j : Nat, w''.cell? ⟨B, j, none⟩ = bx[j]?) ∧ SI w B B' T w'' := by
  obtain ⟨h1, ⟨u0, u1, u2, h2⟩, h3, h4, h5, h6⟩ := h
  exact ⟨fun j => (hb.cell (p := ⟨B, j, none⟩) h3).trans (h1 j), ⟨u0, u1, u2, h2.stays hb⟩, Nat.lt_of_lt_of_le h3 hb.size, h4, h5, bl_tr h6 hb⟩
theorem keepS {w w' : World} {B B' : Nat} {T : TypeId} {bx : List Value} {i : Nat} {u : Value} (h : (∀ j : Nat, w'.cell? ⟨B, j, none⟩ = bx[j]?) ∧ SI w B B' T w') : (∀ j : Nat, (w'.setCell ⟨B', i, none⟩ u).cell? ⟨B, j, none⟩ = bx[j]?) ∧ SI w B B' T (w'.setCell ⟨B', i, none⟩ u) := by
  obtain ⟨h1, ⟨u0, u1, u2, h2⟩, h3, h4, h5, h6⟩ := h
  have h7 := h2.set i u
  refine ⟨fun j => (World.cell?_of_block (w := w') (Below.heap_setCell _ _ _ _ h4)).trans (h1 j), ?_, by simpa [World.setCell] using h3, h4, h5, bl_set _ _ h6 h5⟩
  match i, h7 with
  | 0, h7 => exact ⟨_, _, _, h7⟩
  | 1, h7 => exact ⟨_, _, _, h7⟩
  | 2, h7 => exact ⟨_, _, _, h7⟩
  | i + 3, h7 => exact ⟨_, _, _, h7⟩
theorem beloI {w w' : World} {B B' : Nat} {T : TypeId} {bx : List Value} (h : (∀ j : Nat, w'.cell? ⟨B, j, none⟩ = bx[j]?) ∧ SI w B B' T w') : Below w.heap.size w w' := h.2.2.2.2.2
theorem arrI {w w' : World} {B B' : Nat} {T : TypeId} {bx : List Value} (h : (∀ j : Nat, w'.cell? ⟨B, j, none⟩ = bx[j]?) ∧ SI w B B' T w') : ∃ u0 u1 u2, Arr w' B' T [u0, u1, u2] := h.2.1
/-- What Instantiate answers. -/
def InstOk (g next : Int) (t : Tp) : Prop := Tp.rightS g t = true ∧ 0 ≤ next ∧ next ≤ 2147483647
theorem rightS_g {g : Int} {t : Tp} (h : Tp.rightS g t = true) (hc : t.cnt ≤ 1048576) : 0 ≤ g ∧ g ≤ 1048576 := by
  unfold Tp.rightS at h
  simp only [Bool.and_eq_true, decide_eq_true_eq] at h
  have := Tp.found_len 8 t
  omega

set_option maxHeartbeats 4000000 in
set_option maxRecDepth 100000 in
theorem Instantiate_bad (w : World) (n : Nat) (g next : Int) (vs : List Value) (t : Tp) (hT : TAt w Any n vs t) (hc : t.cnt ≤ 1048576) (h : ¬ InstOk g next t) : Calls Try.prog 8 #[.agg (.int .i64 g :: vs).toArray, .int .i64 next] w fun e w' => e = .returned (.tuple #[.agg #[.int .i64 0, .int .i64 0, .slice none 0 0], .int .i64 0, .int .i64 1]) ∧ Below w.heap.size w w' := by
  obtain ⟨a, c, rfl⟩ := hT.form
  have HB2 : Hid (∀ o o', Below w.heap.size w ((w.alloc o).alloc o')) := fun o o' => bl_alloc (bl_alloc (Below.refl _ _) _) _
  have hRS : Hid (∀ wz, Below w.heap.size w wz → Calls Try.prog 24 #[.agg #[.int .i64 g, .int .i64 t.k, .int .i64 t.n, .slice a t.ks.length c]] wz fun e w' => e = .returned (.bool (Tp.rightS g t)) ∧ Below wz.heap.size wz w') := fun wz hz => RightScheme_any wz n g _ t (hT.below hz) hc
  have HA1 : Hid (∀ o, Arr ((w.alloc o).alloc (.cells #[.int .i64 0, .int .i64 0, .slice none 0 0] 24)) (w.heap.size + 1) 24 [.int .i64 0, .int .i64 0, .slice none 0 0]) := fun o => ⟨by have := heap_alloc_at (w.alloc o) (.cells #[.int .i64 0, .int .i64 0, .slice none 0 0] 24); rw [size_alloc] at this; exact this⟩
  have hcase : Tp.rightS g t = false ∨ Tp.rightS g t = true ∧ next < 0 ∨ Tp.rightS g t = true ∧ ¬ next < 0 ∧ next > 2147483647 := by
    unfold InstOk at h
    cases hr : Tp.rightS g t with
    | false => exact .inl rfl
    | true =>
      rw [hr] at h
      by_cases h0 : next < 0
      · exact .inr (.inl ⟨rfl, h0⟩)
      · exact .inr (.inr ⟨rfl, h0, by
          by_cases h1 : next > 2147483647
          · exact h1
          · exact absurd ⟨rfl, by omega, by omega⟩ h⟩)
  clear hT hc h
  generalize Tp.rightS g t = rs at hRS hcase
  have hs : ∀ (W : World) j u, Below w.heap.size w W → Below w.heap.size w (W.setCell ⟨w.heap.size + 1, j, none⟩ u) := fun W j u h => bl_set _ _ h (by show _ ≤ w.heap.size + 1; omega)
  have HSS := hid hs
  clear hs
  rcases hcase with rfl | ⟨rfl, h1⟩ | ⟨rfl, h1, h2⟩
  · go_enter Try.func8, Try.ntmps8
    go_wp2_with (go_at_call 24; refine (hRS.out _ (HB2.out _ _)).mono ?_; rintro e w3 ⟨rfl, hb3⟩; have HB3 := hid hb3; have q1 := ((HA1.out _).stays hb3).cell; have q2 := ((HA1.out _).stays hb3).frozen; clear hb3)
    refine bodyPost_ret (v := .tuple #[.agg #[.int .i64 0, .int .i64 0, .slice none 0 0], .int .i64 0, .int .i64 1]) (by rw [results_cell3 (fn := Try.f8) (p := 4) (a := 5) (b := 6) (ty := 24) (by kernel_rfl)]; simp [go_sem, q1, q2]) rfl ?_
    exact ⟨rfl, HSS.out _ _ _ (HSS.out _ _ _ (HSS.out _ _ _ (bl_tr (HB2.out _ _) HB3.out)))⟩
  · have hd : decide (next < 0) = true := decide_eq_true h1
    clear h1
    go_enter Try.func8, Try.ntmps8
    go_wp2_with (go_at_call 24; refine (hRS.out _ (HB2.out _ _)).mono ?_; rintro e w3 ⟨rfl, hb3⟩; have HB3 := hid hb3; have q1 := ((HA1.out _).stays hb3).cell; have q2 := ((HA1.out _).stays hb3).frozen; clear hb3)
    refine bodyPost_ret (v := .tuple #[.agg #[.int .i64 0, .int .i64 0, .slice none 0 0], .int .i64 0, .int .i64 1]) (by rw [results_cell3 (fn := Try.f8) (p := 4) (a := 5) (b := 6) (ty := 24) (by kernel_rfl)]; simp [go_sem, q1, q2]) rfl ?_
    exact ⟨rfl, HSS.out _ _ _ (HSS.out _ _ _ (HSS.out _ _ _ (bl_tr (HB2.out _ _) HB3.out)))⟩
  · have hd : decide (next < 0) = false := decide_eq_false h1
    have hd2 : decide (next > 2147483647) = true := decide_eq_true h2
    have hd3 : decide (2147483647 < next) = true := decide_eq_true h2
    clear h1 h2
    go_enter Try.func8, Try.ntmps8
    go_wp2_with (go_at_call 24; refine (hRS.out _ (HB2.out _ _)).mono ?_; rintro e w3 ⟨rfl, hb3⟩; have HB3 := hid hb3; have q1 := ((HA1.out _).stays hb3).cell; have q2 := ((HA1.out _).stays hb3).frozen; clear hb3)
    refine bodyPost_ret (v := .tuple #[.agg #[.int .i64 0, .int .i64 0, .slice none 0 0], .int .i64 0, .int .i64 1]) (by rw [results_cell3 (fn := Try.f8) (p := 4) (a := 5) (b := 6) (ty := 24) (by kernel_rfl)]; simp [go_sem, q1, q2]) rfl ?_
    exact ⟨rfl, HSS.out _ _ _ (HSS.out _ _ _ (HSS.out _ _ _ (bl_tr (HB2.out _ _) HB3.out)))⟩

set_option maxHeartbeats 4000000 in
set_option maxRecDepth 100000 in
theorem Instantiate_ok (w : World) (n : Nat) (g next : Int) (vs : List Value) (t : Tp) (hT : TAt w Any n vs t) (hc : t.cnt ≤ 1048576) (h : InstOk g next t) : Calls Try.prog 8 #[.agg (.int .i64 g :: vs).toArray, .int .i64 next] w fun e w' => ∃ vs' n', e = .returned (.tuple #[.agg vs'.toArray, .int .i64 (next + g), .int .i64 0]) ∧ TAt w' (fun b => w.heap.size ≤ b) n' vs' (Tp.ren (mff next) t) ∧ Below w.heap.size w w' := by
  obtain ⟨a, c, rfl⟩ := hT.form
  have HB2 : Hid (∀ o o', Below w.heap.size w ((w.alloc o).alloc o')) := fun o o' => bl_alloc (bl_alloc (Below.refl _ _) _) _
  have hRS : Hid (∀ wz, Below w.heap.size w wz → Calls Try.prog 24 #[.agg #[.int .i64 g, .int .i64 t.k, .int .i64 t.n, .slice a t.ks.length c]] wz fun e w' => e = .returned (.bool (Tp.rightS g t)) ∧ Below wz.heap.size wz w') := fun wz hz => RightScheme_any wz n g _ t (hT.below hz) hc
  have hR : Hid (∀ wz (b : Nat), Below w.heap.size w wz → wz.cell? ⟨b, 0, none⟩ = some (.int .i64 next) → Calls Try.prog 32 #[.agg #[.int .i64 t.k, .int .i64 t.n, .slice a t.ks.length c], .func (.func 56) #[] #[.pointer (some ⟨b, 0, none⟩)]] wz fun e w' => ∃ y a n' c, Tp.ren (mff next) t = y ∧ e = .returned (.agg #[.int .i64 y.k, .int .i64 y.n, .slice a y.ks.length c]) ∧ TAt w' (fun b => wz.heap.size ≤ b) n' [.int .i64 y.k, .int .i64 y.n, .slice a y.ks.length c] y ∧ Below wz.heap.size wz w') := by
    intro wz b hz hcell
    refine (ren_any _ _ _ _ wz enters_mf (mf_maker wz b next hcell) n wz _ t (Below.refl _ _) (hT.below hz) hc).mono ?_
    rintro e w' ⟨vs', n', rfl, h1, h2⟩
    obtain ⟨a', c', rfl⟩ := h1.form
    exact ⟨_, a', n', c', rfl, rfl, h1, h2⟩
  have hMF : Hid (∀ wz, Calls Try.prog 33 #[.int .i64 next] wz fun e w' => ∃ b : Nat, e = .returned (.func (.func 56) #[] #[.pointer (some ⟨b, 0, none⟩)]) ∧ w'.cell? ⟨b, 0, none⟩ = some (.int .i64 next) ∧ Below wz.heap.size wz w') := fun wz => (metasFrom_any wz next).mono fun e w' ⟨h1, h2⟩ => ⟨_, h1, by rw [h2]; exact cell_at (heap_alloc_at _ _) 0, by rw [h2]; exact bl_alloc (Below.refl _ _) _⟩
  have HA0 : Hid (∀ o, Arr ((w.alloc (.cells #[.int .i64 g, .int .i64 t.k, .int .i64 t.n, .slice a t.ks.length c] 26)).alloc o) w.heap.size 26 [.int .i64 g, .int .i64 t.k, .int .i64 t.n, .slice a t.ks.length c]) := fun o => Arr.stays ⟨heap_alloc_at _ _⟩ (bl_alloc (Below.refl _ _) _)
  have HA1 : Hid (∀ o, Arr ((w.alloc o).alloc (.cells #[.int .i64 0, .int .i64 0, .slice none 0 0] 24)) (w.heap.size + 1) 24 [.int .i64 0, .int .i64 0, .slice none 0 0]) := fun o => ⟨by have := heap_alloc_at (w.alloc o) (.cells #[.int .i64 0, .int .i64 0, .slice none 0 0] 24); rw [size_alloc] at this; exact this⟩
  obtain ⟨h1, h2, h3⟩ := h
  obtain ⟨hg0, hg1⟩ := rightS_g h1 hc
  rw [h1] at hRS
  have hd : decide (next < 0) = false := decide_eq_false (by omega)
  have hd2 : decide (next > 2147483647) = false := decide_eq_false (by omega)
  have hd3 : decide (2147483647 < next) = false := decide_eq_false (by omega)
  obtain ⟨m, hm⟩ : ∃ m, wrap64 (next + g) = m := ⟨_, rfl⟩
  have hm2 : next + g = m := by rw [← hm]; unfold wrap64; omega
  have hm3 : IntKind.i64.wrap (next + g) = m := by rw [← hm, IntKind.wrap_i64]; unfold wrap64; omega
  rw [hm2]
  clear hT hc h1 h2 h3 hg0 hg1 hm hm2
  generalize Tp.ren (mff next) t = yy at hR ⊢
  go_enter Try.func8, Try.ntmps8
  go_wp2_with (go_at_call 24; refine (hRS.out _ (HB2.out _ _)).mono ?_; rintro e w3 ⟨rfl, hb3⟩; have HB3 := hid (bl_tr (HB2.out _ _) hb3); have H0 := hid ((HA0.out _).stays hb3); have H1 := hid ((HA1.out _).stays hb3); clear hb3)
  clear HB2 HA0 HA1 hRS
  have hs0 : Hid ((∀ j : Nat, w3.drew.cell? ⟨w.heap.size, j, none⟩ = [.int .i64 g, .int .i64 t.k, .int .i64 t.n, .slice a t.ks.length c][j]?) ∧ SI w w.heap.size (w.heap.size + 1) 24 w3.drew) := ⟨H0.out.cell, ⟨_, _, _, H1.out.stays (Below.refl _ _).drew⟩, H0.out.lt, by omega, by omega, HB3.out.drew⟩
  have HLW : Hid (w.heap.size + 1 < w3.drew.heap.size) := H1.out.lt
  clear HB3 H0 H1
  go_region_held (fun w' => (∀ j : Nat, w'.cell? ⟨w.heap.size, j, none⟩ = [.int .i64 g, .int .i64 t.k, .int .i64 t.n, .slice a t.ks.length c][j]?) ∧ SI w w.heap.size (w.heap.size + 1) 24 w') (first | exact hs0.out | exact keepI (by assumption) (by assumption) | (with_reducible (refine keepS (keepS (keepS ?_)))); assumption) (first | (go_at_call 33; refine (hMF.out _).mono ?_; rintro e wa ⟨ba, rfl, hca, hba⟩) | (go_at_call 32; refine (hR.out _ _ (beloI (by assumption)) (by assumption)).mono ?_; rintro e wb ⟨y, a8, n8, c8, hy8, rfl, hT8, hb8⟩; have HT8 := hid hT8; have HY8 := hid hy8; obtain ⟨u0, u1, u2, hA8⟩ := arrI (by assumption); have q8 := (hA8.stays hb8).cell; have q9 := (hA8.stays hb8).frozen; clear hA8 hT8 hy8))
  all_goals go_wp2
  all_goals refine bodyPost_ret (v := .tuple #[.agg #[.int .i64 y.k, .int .i64 y.n, .slice a8 y.ks.length c8], .int .i64 m, .int .i64 0]) (by rw [results_cell3 (fn := Try.f8) (p := 4) (a := 5) (b := 6) (ty := 24) (by kernel_rfl)]; simp [go_sem, q8, q9]) rfl ?_
  all_goals have hK : ∀ (W : World) j u, Keeps (fun b => w.heap.size + 1 < b) W (W.setCell ⟨w.heap.size + 1, j, none⟩ u) := fun W j u => Keeps.set (K := fun b => w.heap.size + 1 < b) (p := ⟨w.heap.size + 1, j, none⟩) (fun h => by simp at h) u
  all_goals have hlt : w.heap.size + 1 < wa.heap.size := Nat.lt_of_lt_of_le HLW.out hba.size
  all_goals refine ⟨[_, _, _], n8, rfl, ?_, beloI (by assumption)⟩
  all_goals rw [HY8.out]
  all_goals exact (HT8.out.move (K' := fun b => w.heap.size + 1 < b) (Keeps.refl _ _) (fun b hb => by omega)).move (((hK _ _ _).trans (hK _ _ _)).trans (hK _ _ _)) (fun b hb => by omega)
end Go.Proofs.Ythijckdhndbdoaa
