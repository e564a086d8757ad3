/- Pieces: GrD GrE GrQ. -/
import Derived.Test.YtjebepnphoeiaaaGreatDoorQaf
import Derived.Deep.RegionWith
import Derived.Deep.RegionHeld
import Derived.BigRegion
import Derived.Test.YtjebepnphoeiaaaGreatDoorQac
namespace Go.Proofs.YtjebepnphoeiaaaGreatDoor
open Go.RowKit
set_option linter.unusedVariables false

theorem gr_alloc_ints {w : World} {zs : List Int} {t : TypeId} : ∀ j, j < zs.length → (w.alloc (.cells (zs.map (Value.int .i64)).toArray t)).cell? ⟨w.heap.size, 0 + j, none⟩ = some (.int .i64 (zs.getD j 0)) := fun j hj => by
 rw [World.cell?_alloc_at _ _ _ _ rfl]
 simp [hj]
theorem Gr.zs_low (k : Nat) : [(1 : Int)].contains (k : Int) = ((true && decide (k = 1)) || (false && decide (k = 2))) := by
 rw [Bool.eq_iff_iff]; simp; omega
theorem Gr.zs_high (k : Nat) : [(2 : Int)].contains (k : Int) = ((false && decide (k = 1)) || (true && decide (k = 2))) := by
 rw [Bool.eq_iff_iff]; simp; omega
theorem Gr.zs_both (k : Nat) : [(1 : Int), 2].contains (k : Int) = ((true && decide (k = 1)) || (true && decide (k = 2))) := by
 rw [Bool.eq_iff_iff]; simp; omega
def Gr.LAns (B S : Nat) (w : World) (R : Gr.PRes) (e : Ending) (w' : World) : Prop := match R with
 | .ok p low r => (∃ v, e = .returned v ∧ Tx w' (Ge w.heap.size) v p ∧ (∀ x, x ∈ p → x.size ≤ maxLen) ∧ p.length ≤ maxLen) ∧ Rd w' B S r ∧ Bes B w w'
 | .bad r c => e = .panicked [Gr.pe (Gr.place S r) c] ∧ (∃ ts', Rd w' B S ts') ∧ Bes B w w'

set_option maxHeartbeats 600000 in
set_option maxRecDepth 100000 in
theorem gr_lowPath (w : World) (B S : Nat) (ts : Gr.Ts) (h : Rd w B S ts) :
  Calls Tryz.prog 111 #[.pointer (some ⟨B, 0, none⟩)] w (Gr.LAns B S w (Gr.low ts)) := by
 have q : Hid (Calls Tryz.prog 152 #[.pointer (some ⟨B, 0, none⟩), .slice (some ⟨w.heap.size, 0, none⟩) 1 1] (w.alloc (.cells #[.int .i64 1] 3)) (Gr.PAns B S (w.alloc (.cells #[.int .i64 1] 3)) (Gr.low ts))) := gr_path true false _ B S ts (h.alloc _) w.heap.size 1 [1] (by simp) (by have := h.lt; omega) rfl (by decide) (gr_alloc_ints (zs := [1])) Gr.zs_low
 clear h
 cases hL : Gr.low ts with
 | ok p low r =>
  rw [hL] at q
  clear hL
  go_enter Tryz.func111, Tryz.ntmps111
  go_wp2_with (go_at_call 152; refine q.out.mono ?_; rintro e w1 ⟨⟨v, rfl, hv⟩, hR, hB⟩; generalize (if low = true then (1 : Int) else 2) = kk)
  go_ret
  exact ⟨⟨_, rfl, hv.1.move (Keeps.refl _ _) (Ge.le (by simp)), hv.2⟩, hR, ((Bes.refl _ _).alloc _).trans hB⟩
 | bad r c =>
  rw [hL] at q
  clear hL
  go_enter Tryz.func111, Tryz.ntmps111
  go_wp2_with (go_at_call 152; refine q.out.mono ?_; rintro e w1 ⟨rfl, hR, hB⟩)
  exact ⟨rfl, rfl, hR, ((Bes.refl _ _).alloc _).trans hB⟩

set_option maxHeartbeats 600000 in
set_option maxRecDepth 100000 in
theorem gr_highPath (w : World) (B S : Nat) (ts : Gr.Ts) (h : Rd w B S ts) :
  Calls Tryz.prog 83 #[.pointer (some ⟨B, 0, none⟩)] w (Gr.LAns B S w (Gr.high ts)) := by
 have q : Hid (Calls Tryz.prog 152 #[.pointer (some ⟨B, 0, none⟩), .slice (some ⟨w.heap.size, 0, none⟩) 1 1] (w.alloc (.cells #[.int .i64 2] 3)) (Gr.PAns B S (w.alloc (.cells #[.int .i64 2] 3)) (Gr.high ts))) := gr_path false true _ B S ts (h.alloc _) w.heap.size 1 [2] (by simp) (by have := h.lt; omega) rfl (by decide) (gr_alloc_ints (zs := [2])) Gr.zs_high
 clear h
 cases hL : Gr.high ts with
 | ok p low r =>
  rw [hL] at q
  clear hL
  go_enter Tryz.func83, Tryz.ntmps83
  go_wp2_with (go_at_call 152; refine q.out.mono ?_; rintro e w1 ⟨⟨v, rfl, hv⟩, hR, hB⟩; generalize (if low = true then (1 : Int) else 2) = kk)
  go_ret
  exact ⟨⟨_, rfl, hv.1.move (Keeps.refl _ _) (Ge.le (by simp)), hv.2⟩, hR, ((Bes.refl _ _).alloc _).trans hB⟩
 | bad r c =>
  rw [hL] at q
  clear hL
  go_enter Tryz.func83, Tryz.ntmps83
  go_wp2_with (go_at_call 152; refine q.out.mono ?_; rintro e w1 ⟨rfl, hR, hB⟩)
  exact ⟨rfl, rfl, hR, ((Bes.refl _ _).alloc _).trans hB⟩

def Gr.Ans (B S s : Nat) (w : World) (R : Gr.Res) (e : Ending) (w' : World) : Prop := match R with
 | .ok nd r => (∃ vs n, e = .returned (.agg vs.toArray) ∧ At w' (Ge w.heap.size) n s vs nd) ∧ Rd w' B S r ∧ Bes B w w'
 | .bad r c => e = .panicked [Gr.pe (Gr.place S r) c] ∧ (∃ ts', Rd w' B S ts') ∧ Bes B w w'
 | .out => True
theorem results_cell1 {fn : Func} {p : Tmp} {ty : TypeId} (h : fn.results = #[.cell p ty]) (tmps : Array Value) (P : Program) (w : World) :
  (results fn tmps).run P w = ((asAddr (tmps.getD p undef)).run P w).andThen fun a w₁ => ((loadVar ty a).run P w₁) := by
 simp only [results, h]
 simp [Sem.run_bind, Result.andThen]
theorem Gr.Ans.mk {B S s n : Nat} {w w1 W : World} {vs : List Value} {nd : Nd} {r : Gr.Ts} (hlt : B < w.heap.size) (hs : Save w.heap.size w1 W) (hR : Rd w1 B S r) (hB : Bes B w w1) (ha : At w1 (Ge (w.heap.size + 1)) n s vs nd) :
  Gr.Ans B S s w (.ok nd r) (.returned (.agg vs.toArray)) W :=
 ⟨⟨vs, n, rfl, At.move (Keeps.save hs (Nat.lt_succ_self _)) (Ge.le (Nat.le_succ _)) _ _ _ _ ha⟩, hR.save hs hlt, hB.save hs (Nat.le_refl _)⟩
def Gr.Rule (fn : FuncId) (nt : Gr.Nt) (s f : Nat) : Prop := ∀ (w : World) (B S : Nat) (ts : Gr.Ts), Rd w B S ts → Gr.g f nt ts ≠ .out → Calls Tryz.prog fn #[.pointer (some ⟨B, 0, none⟩)] w (Gr.Ans B S s w (Gr.g f nt ts))
theorem Tx.none0 (w : World) (K : Nat → Prop) : Tx w K (.slice none 0 0) [] := .inr ⟨rfl, _, _, rfl⟩
theorem AtL.none0 (w : World) (K : Nat → Prop) (n s : Nat) : AtL w K n s (.slice none 0 0) [] := .inr ⟨rfl, _, _, rfl⟩
theorem i64_ok {x : Int} (h : 0 ≤ x) (h2 : x ≤ 9223372036854775807) : -9223372036854775808 ≤ x ∧ x ≤ 9223372036854775807 := ⟨by omega, h2⟩

set_option maxHeartbeats 600000 in
set_option maxRecDepth 100000 in
theorem gr_pathExp (w : World) (B S : Nat) (ts : Gr.Ts) (h : Rd w B S ts) :
  Calls Tryz.prog 266 #[.pointer (some ⟨B, 0, none⟩)] w (Gr.Ans B S 2 w ((Gr.either ts).bind fun p low r => .ok (Gr.expN (if low = true then 5 else 6) 0 0 p [] [] [] []) r)) := by
 have q : Hid (∀ ob, Calls Tryz.prog 152 #[.pointer (some ⟨B, 0, none⟩), .slice (some ⟨w.heap.size + 1, 0, none⟩) 2 2] ((w.alloc ob).alloc (.cells #[.int .i64 1, .int .i64 2] 3)) (Gr.PAns B S ((w.alloc ob).alloc (.cells #[.int .i64 1, .int .i64 2] 3)) (Gr.either ts))) := fun ob => gr_path true true _ B S ts ((h.alloc _).alloc _) (w.heap.size + 1) 2 [1, 2] (by simp) (by have := h.lt; omega) rfl (by decide) (by have := gr_alloc_ints (w := w.alloc ob) (zs := [1, 2]) (t := 3); simpa using this) Gr.zs_both
 have hlt := h.lt
 clear h
 cases hL : Gr.either ts with
 | ok p low r =>
  rw [hL] at q
  clear hL
  cases low with
  | true =>
   go_enter Tryz.func266, Tryz.ntmps266
   go_wp2_with (go_at_call 152; refine (q.out _).mono ?_; rintro e w1 ⟨⟨v, rfl, hv, hx, hl⟩, hR0, hB⟩; obtain ⟨va, vc, rfl⟩ := hv.form; obtain ⟨⟨c0, c1, c2, c3, c4, c5, c6, c7⟩, z0, z1, z2, z3, z4, z5, z6, z7⟩ := (((Bx.new w [.int .i64 0, .int .i64 0, .int .i64 0, .slice none 0 0, .slice none 0 0, .slice none 0 0, .slice none 0 0, .slice none 0 0] 28).below (bl_alloc (Below.refl _ _) (.cells #[.int .i64 1, .int .i64 2] 3))).bes hB (by omega)).e8; have HX : Hid ((∀ x, x ∈ p → x.size ≤ maxLen) ∧ p.length ≤ maxLen) := ⟨hx, hl⟩; have hR : Hid (Rd w1 B S r) := hR0; have hT : Hid (Tx w1 (Ge (w.heap.size + 1)) (.slice va p.length vc) p) := hv.move (Keeps.refl _ _) (Ge.le (by simp)); have hBB : Hid (Bes B w w1) := (((Bes.refl _ _).alloc _).alloc _).trans hB; clear hx hl hR0 hv hB)
   refine bodyPost_ret (v := .agg #[.int .i64 5, .int .i64 0, .int .i64 0, .slice va p.length vc, .slice none 0 0, .slice none 0 0, .slice none 0 0, .slice none 0 0]) (by rw [results_cell1 (fn := Tryz.f266) (p := 2) (ty := 28) (by kernel_rfl)]; simp [go_sem, c0, c1, c2, c3, c4, c5, c6, c7]) rfl ?_
   exact Gr.Ans.mk hlt (by repeat' (first | refine Save.set ?_ _ _ | exact Save.refl _ _)) hR.out hBB.out (At.exp_mk (n := 0) (by decide) (by decide) (by decide) hT.out HX.out.1 HX.out.2 (AtL.none0 ..) (AtL.none0 ..) (AtL.none0 ..) (AtL.none0 ..))
  | false =>
   go_enter Tryz.func266, Tryz.ntmps266
   go_wp2_with (go_at_call 152; refine (q.out _).mono ?_; rintro e w1 ⟨⟨v, rfl, hv, hx, hl⟩, hR0, hB⟩; obtain ⟨va, vc, rfl⟩ := hv.form; obtain ⟨⟨c0, c1, c2, c3, c4, c5, c6, c7⟩, z0, z1, z2, z3, z4, z5, z6, z7⟩ := (((Bx.new w [.int .i64 0, .int .i64 0, .int .i64 0, .slice none 0 0, .slice none 0 0, .slice none 0 0, .slice none 0 0, .slice none 0 0] 28).below (bl_alloc (Below.refl _ _) (.cells #[.int .i64 1, .int .i64 2] 3))).bes hB (by omega)).e8; have HX : Hid ((∀ x, x ∈ p → x.size ≤ maxLen) ∧ p.length ≤ maxLen) := ⟨hx, hl⟩; have hR : Hid (Rd w1 B S r) := hR0; have hT : Hid (Tx w1 (Ge (w.heap.size + 1)) (.slice va p.length vc) p) := hv.move (Keeps.refl _ _) (Ge.le (by simp)); have hBB : Hid (Bes B w w1) := (((Bes.refl _ _).alloc _).alloc _).trans hB; clear hx hl hR0 hv hB)
   refine bodyPost_ret (v := .agg #[.int .i64 6, .int .i64 0, .int .i64 0, .slice va p.length vc, .slice none 0 0, .slice none 0 0, .slice none 0 0, .slice none 0 0]) (by rw [results_cell1 (fn := Tryz.f266) (p := 2) (ty := 28) (by kernel_rfl)]; simp [go_sem, c0, c1, c2, c3, c4, c5, c6, c7]) rfl ?_
   exact Gr.Ans.mk hlt (by repeat' (first | refine Save.set ?_ _ _ | exact Save.refl _ _)) hR.out hBB.out (At.exp_mk (n := 0) (by decide) (by decide) (by decide) hT.out HX.out.1 HX.out.2 (AtL.none0 ..) (AtL.none0 ..) (AtL.none0 ..) (AtL.none0 ..))
 | bad r c =>
  rw [hL] at q
  clear hL
  go_enter Tryz.func266, Tryz.ntmps266
  go_wp2_with (go_at_call 152; refine (q.out _).mono ?_; rintro e w1 ⟨rfl, hR, hB⟩)
  exact ⟨rfl, rfl, hR, (((Bes.refl _ _).alloc _).alloc _).trans hB⟩
set_option linter.unusedSimpArgs false
set_option maxHeartbeats 800000 in
set_option maxRecDepth 100000 in
theorem gr_ty (f : Nat) (ihP : Gr.Rule 93 .pairTy 0 f) (ihT : Gr.Rule 39 .ty 0 f) : Gr.Rule 39 .ty 0 (f + 1) := by
 intro w B S ts h hne
 rw [show Gr.g (f + 1) .ty ts = (Gr.g f .pairTy ts).bind fun a r => if Gr.isT [45, 62] r = true then (Gr.g f .ty r.tail).bind fun b r2 => .ok (Gr.tyN 3 Gr.none8 [] [a, b]) r2 else .ok a r from rfl] at hne ⊢
 have hlt := h.lt
 have qP := fun ob => ihP (w.alloc ob) B S ts (h.alloc _)
 clear h ihP
 cases hP : Gr.g f .pairTy ts with
 | out => rw [hP] at hne; exact absurd rfl hne
 | bad r c =>
  have q : Hid (∀ ob, Calls Tryz.prog 93 #[.pointer (some ⟨B, 0, none⟩)] (w.alloc ob) (Gr.Ans B S 0 (w.alloc ob) (.bad r c))) := fun ob => by rw [← hP]; exact qP ob (by rw [hP]; simp)
  clear qP hP hne
  go_enter Tryz.func39, Tryz.ntmps39
  go_wp2_with (go_at_call 93; refine (q.out _).mono ?_; rintro e w1 ⟨rfl, hR, hB⟩)
  exact ⟨rfl, rfl, hR, ((Bes.refl _ _).alloc _).trans hB⟩
 | ok a r =>
  have q : Hid (∀ ob, Calls Tryz.prog 93 #[.pointer (some ⟨B, 0, none⟩)] (w.alloc ob) (Gr.Ans B S 0 (w.alloc ob) (.ok a r))) := fun ob => by rw [← hP]; exact qP ob (by rw [hP]; simp)
  simp only [hP, Gr.Res.bind] at hne ⊢
  clear qP hP
  cases hT : Gr.isT [45, 62] r with
  | false =>
   clear hne
   go_enter Tryz.func39, Tryz.ntmps39
   go_wp2_with (first | (go_at_call 93; refine (q.out _).mono ?_; rintro e w1 ⟨⟨vs, n, rfl, ha0⟩, hR1, hB0⟩; obtain ⟨i0, s1, a2, n2, c2, d0, m0, e0, rfl⟩ := ha0.ty_form; have ha : Hid (At w1 (Ge (w.heap.size + 1)) n 0 _ a) := (by have := ha0; simp at this; exact this); have hbx := (Bx.new w [.int .i64 0, .string ⟨#[]⟩, .slice none 0 0, .slice none 0 0] 41).bes hB0 (by omega); have hB1 : Bes B w w1 := ((Bes.refl _ _).alloc _).trans hB0; have hlt1 : w.heap.size < w1.heap.size := (by have := hB0.size; simp at this; omega); clear ha0 hB0) | (go_at_call 53; refine (gr_take _ B S r (hR1.alloc _) ⟨#[45, 62]⟩ false hT).mono ?_; rintro e w2 ⟨rfl, hR2, hB2⟩; have hbx2 := (hbx.below (bl_alloc (Below.refl _ _) _)).bes hB2 (by omega); have hbl2 := (Bx.new w1 [.int .i64 i0, .string s1, .slice a2 n2 c2, .slice d0 m0 e0] 41).bes hB2 (by omega); obtain ⟨⟨k0, k1, k2, k3⟩, z0, z1, z2, z3⟩ := hbx2.e4; obtain ⟨⟨l0, l1, l2, l3⟩, -⟩ := hbl2.e4; have hB2' : Bes B w w2 := (hB1.alloc _).trans hB2; have ha2 : Hid (At w2 (Ge (w.heap.size + 1)) n 0 _ a) := ((Bes.of_below (bl_alloc (Below.refl _ _) _)).trans hB2).at (by omega) ha.out; have hlt2 : w1.heap.size < w2.heap.size := (by have := hB2.size; simp at this; omega)))
   refine bodyPost_ret (v := .agg #[.int .i64 i0, .string s1, .slice a2 n2 c2, .slice d0 m0 e0]) (by rw [results_cell1 (fn := Tryz.f39) (p := 2) (ty := 41) (by kernel_rfl)]; simp [go_sem, k0, k1, k2, k3]) rfl ?_
   exact Gr.Ans.mk hlt (by repeat' (first | refine Save.set ?_ _ _ | exact Save.refl _ _)) hR2 hB2' ha2.out
  | true =>
   rw [hT] at hne
   simp only [if_pos] at hne ⊢
   have qT := ihT
   cases hG : Gr.g f .ty r.tail with
   | out => rw [hG] at hne; exact absurd rfl hne
   | bad r2 c =>
    go_enter Tryz.func39, Tryz.ntmps39
    go_wp2_with (first | (go_at_call 93; refine (q.out _).mono ?_; rintro e w1 ⟨⟨vs, n, rfl, ha0⟩, hR1, hB0⟩; obtain ⟨i0, s1, a2, n2, c2, d0, m0, e0, rfl⟩ := ha0.ty_form; have ha : Hid (At w1 (Ge (w.heap.size + 1)) n 0 _ a) := (by have := ha0; simp at this; exact this); have hbx := (Bx.new w [.int .i64 0, .string ⟨#[]⟩, .slice none 0 0, .slice none 0 0] 41).bes hB0 (by omega); have hB1 : Bes B w w1 := ((Bes.refl _ _).alloc _).trans hB0; have hlt1 : w.heap.size < w1.heap.size := (by have := hB0.size; simp at this; omega); clear ha0 hB0) | (go_at_call 53; refine (gr_take _ B S r (hR1.alloc _) ⟨#[45, 62]⟩ true hT).mono ?_; rintro e w2 ⟨rfl, hR2, hB2⟩; have hbx2 := (hbx.below (bl_alloc (Below.refl _ _) _)).bes hB2 (by omega); have hbl2 := (Bx.new w1 [.int .i64 i0, .string s1, .slice a2 n2 c2, .slice d0 m0 e0] 41).bes hB2 (by omega); obtain ⟨⟨k0, k1, k2, k3⟩, z0, z1, z2, z3⟩ := hbx2.e4; obtain ⟨⟨l0, l1, l2, l3⟩, -⟩ := hbl2.e4; have hB2' : Bes B w w2 := (hB1.alloc _).trans hB2; have ha2 : Hid (At w2 (Ge (w.heap.size + 1)) n 0 _ a) := ((Bes.of_below (bl_alloc (Below.refl _ _) _)).trans hB2).at (by omega) ha.out; have hlt2 : w1.heap.size < w2.heap.size := (by have := hB2.size; simp at this; omega)))
    have qG : Hid (∀ W, Rd W B S r.tail → Calls Tryz.prog 39 #[.pointer (some ⟨B, 0, none⟩)] W (Gr.Ans B S 0 W (.bad r2 c))) := fun W hW => by rw [← hG]; exact ihT W B S r.tail hW (by rw [hG]; simp)
    refine wp_region_held_drew (S := fun wz => Bx wz w1.heap.size [.int .i64 i0, .string s1, .slice a2 n2 c2, .slice d0 m0 e0]) rfl (hbl2.below (Below.refl _ _).drew) (fun hS => ?_)
    refine wpAnyH_take (i := 0) (v := ?_) rfl (by kernel_rfl) (by kernel_rfl) (by kernel_rfl) (fun _ _ _ h => h) (Or.inl ⟨by rfl, ?_⟩) hS ?_
    rotate_left
    ·
     intro wz hz; obtain ⟨⟨y0, y1, y2, y3⟩, -⟩ := hz.e4; go_simp; try with_reducible rfl
    try simp only [Act.put, List.setIfInBounds_toArray, List.set_cons_zero, List.set_cons_succ, List.getElem_toArray, List.getElem_cons_succ, List.getElem_cons_zero]
    refine wpAnyH_take (i := 1) (v := ?_) rfl (by kernel_rfl) (by kernel_rfl) (by kernel_rfl) (fun _ _ _ h => h) (Or.inl ⟨by rfl, ?_⟩) hS ?_
    rotate_left
    ·
     intro wz hz; go_simp; try with_reducible rfl
    try simp only [Act.put, List.setIfInBounds_toArray, List.set_cons_zero, List.set_cons_succ, List.getElem_toArray, List.getElem_cons_succ, List.getElem_cons_zero]
    refine wpAnyH_ready (rs := [2]) (by kernel_rfl) (by simp) (AllReadyH.cons rfl (fun K hK => ?_) AllReadyH.nil)
    go_simp
    refine (qG.out _ (hR2.below (Below.refl _ _).drew)).mono ?_
    rintro e w3 ⟨rfl, hR3, hB3⟩
    exact ⟨rfl, rfl, hR3, hB2'.drew.trans hB3⟩
   | ok b r2 =>
    have qG : Hid (∀ W, Rd W B S r.tail → Calls Tryz.prog 39 #[.pointer (some ⟨B, 0, none⟩)] W (Gr.Ans B S 0 W (.ok b r2))) := fun W hW => by rw [← hG]; exact ihT W B S r.tail hW (by rw [hG]; simp)
    clear hG hne ihT qT
    go_enter Tryz.func39, Tryz.ntmps39
    go_wp2_with (first | (go_at_call 93; refine (q.out _).mono ?_; rintro e w1 ⟨⟨vs, n, rfl, ha0⟩, hR1, hB0⟩; obtain ⟨i0, s1, a2, n2, c2, d0, m0, e0, rfl⟩ := ha0.ty_form; have ha : Hid (At w1 (Ge (w.heap.size + 1)) n 0 _ a) := (by have := ha0; simp at this; exact this); have hbx := (Bx.new w [.int .i64 0, .string ⟨#[]⟩, .slice none 0 0, .slice none 0 0] 41).bes hB0 (by omega); have hB1 : Bes B w w1 := ((Bes.refl _ _).alloc _).trans hB0; have hlt1 : w.heap.size < w1.heap.size := (by have := hB0.size; simp at this; omega); clear ha0 hB0) | (go_at_call 53; refine (gr_take _ B S r (hR1.alloc _) ⟨#[45, 62]⟩ true hT).mono ?_; rintro e w2 ⟨rfl, hR2, hB2⟩; have hbx2 := (hbx.below (bl_alloc (Below.refl _ _) _)).bes hB2 (by omega); have hbl2 := (Bx.new w1 [.int .i64 i0, .string s1, .slice a2 n2 c2, .slice d0 m0 e0] 41).bes hB2 (by omega); obtain ⟨⟨k0, k1, k2, k3⟩, z0, z1, z2, z3⟩ := hbx2.e4; obtain ⟨⟨l0, l1, l2, l3⟩, -⟩ := hbl2.e4; have hB2' : Bes B w w2 := (hB1.alloc _).trans hB2; have ha2 : Hid (At w2 (Ge (w.heap.size + 1)) n 0 _ a) := ((Bes.of_below (bl_alloc (Below.refl _ _) _)).trans hB2).at (by omega) ha.out; have hlt2 : w1.heap.size < w2.heap.size := (by have := hB2.size; simp at this; omega)))
    go_region_with (go_at_call 39; refine (qG.out _ (hR2.below (Below.refl _ _).drew)).mono ?_; rintro e w3 ⟨⟨us, p, rfl, hb0⟩, hR3, hB3⟩; obtain ⟨j0, t1, b2, p2, f2, g0, q0, h0, rfl⟩ := hb0.ty_form; have hbx3 := (hbx2.below (Below.refl _ _).drew).bes hB3 (by omega); have hbl3 := (hbl2.below (Below.refl _ _).drew).bes hB3 (by omega); obtain ⟨⟨k0', k1', k2', k3'⟩, z0', z1', z2', z3'⟩ := hbx3.e4; obtain ⟨⟨l0', l1', l2', l3'⟩, -⟩ := hbl3.e4; have ha3 : Hid (At w3 (Ge (w.heap.size + 1)) n 0 _ a) := ((Bes.of_below (Below.refl _ _).drew).trans hB3).at (by omega) ha2.out; have hb3 : Hid (At w3 (Ge (w.heap.size + 1)) p 0 _ b) := At.move (Keeps.refl _ _) (Ge.le (by simp; omega)) _ _ _ _ hb0; have hB3' : Bes B w w3 := hB2'.drew.trans hB3; have hltw : w.heap.size < w3.heap.size := (by have := hB3.size; simp at this; omega); have hltl : w1.heap.size < w3.heap.size := (by have := hB3.size; simp at this; omega); clear hb0)
    all_goals
     go_wp2
     refine bodyPost_ret (v := .agg #[.int .i64 3, .string ⟨#[]⟩, .slice none 0 0, .slice (some ⟨w3.heap.size, 0, none⟩) 2 2]) (by rw [results_cell1 (fn := Tryz.f39) (p := 2) (ty := 41) (by kernel_rfl)]; simp [go_sem, k0', k1', k2', k3', hltw]) rfl ?_
     exact Gr.Ans.mk hlt (by repeat' (first | refine Save.set ?_ _ _ | refine Save.alloc2 ?_ _ | exact Save.refl _ _)) (hR3.alloc _) (hB3'.alloc _) (At.ty_mk (n := max n p) (by decide) (by decide) (Tx.none0 ..) (fun x hx => by cases hx) (Nat.zero_le _) (AtL.mk2 (At.le ha3.out (Nat.le_max_left n p)) (At.le hb3.out (Nat.le_max_right n p)) (by omega) 41 rfl rfl))
end Go.Proofs.YtjebepnphoeiaaaGreatDoor
namespace Go.Proofs.YtjebepnphoeiaaaGreatDoor
set_option linter.unusedVariables false

theorem Gr.isT_len {x : List UInt8} {ts : Gr.Ts} (h : Gr.isT x ts = true) : ts.tail.length + 1 = ts.length := by
 cases ts with
 | nil => cases h
 | cons t r => rfl
theorem Gr.kd_len {ts : Gr.Ts} {k : Nat} (h : Gr.kd ts = k + 1) : ts.tail.length + 1 = ts.length := by
 cases ts with
 | nil => cases h
 | cons t r => rfl
theorem Gr.begE_len {ts : Gr.Ts} (h : Gr.begE ts = true) : 1 ≤ ts.length := by
 cases ts with
 | nil => cases h
 | cons t r => simp
theorem Gr.begP_len {ts : Gr.Ts} (h : Gr.begP ts = true) : 1 ≤ ts.length := by
 cases ts with
 | nil => cases h
 | cons t r => simp
theorem Gr.lows_len : ∀ (ts : Gr.Ts), (Gr.lows ts).2.length ≤ ts.length
 | [] => Nat.le_refl _
 | t :: r => by
  unfold Gr.lows
  split
  ·
   have := Gr.lows_len r; simp; omega
  ·
   simp

def Gr.Fine (m L : Nat) : Gr.Res → Prop
 | .ok _ r => r.length + m ≤ L
 | .bad _ _ => True
 | .out => False
theorem Gr.Fine.bind {m L m1 L1 : Nat} {a : Gr.Res} {k : Nd → Gr.Ts → Gr.Res} (h : Gr.Fine m1 L1 a) (hk : ∀ v r, r.length + m1 ≤ L1 → Gr.Fine m L (k v r)) : Gr.Fine m L (a.bind k) := by
 cases a with
 | ok v r => exact hk v r h
 | bad r e => trivial
 | out => exact h.elim
theorem Gr.Fine.need {m L : Nat} {x : List UInt8} {ts : Gr.Ts} {k : Gr.Ts → Gr.Res} (hk : ts.tail.length + 1 = ts.length → Gr.Fine m L (k ts.tail)) : Gr.Fine m L (Gr.need x ts k) := by
 unfold Gr.need
 split
 ·
  next h => exact hk (Gr.isT_len h)
 ·
  trivial
theorem Gr.Fine.name {m L q : Nat} {ts : Gr.Ts} {k : ByteArray → Gr.Ts → Gr.Res} (hk : ∀ s, ts.tail.length + 1 = ts.length → Gr.Fine m L (k s ts.tail)) : Gr.Fine m L (Gr.name (q + 1) ts k) := by
 unfold Gr.name
 split
 ·
  next h => exact hk _ (Gr.kd_len h)
 ·
  trivial
def Gr.PFine (L : Nat) : Gr.PRes → Prop
 | .ok _ _ r => r.length + 1 ≤ L
 | .bad _ _ => True
theorem Gr.path_fine (lo up : Bool) (first : Gr.Ts) : ∀ (k : Nat) (ts : Gr.Ts) (acc : List ByteArray), Gr.PFine ts.length (Gr.path lo up first k ts acc)
 | k, ts, acc => by
  unfold Gr.path
  split
  ·
   trivial
  ·
   next h =>
   have hl : ts.tail.length + 1 = ts.length := by
    cases ts with
    | nil => simp [Gr.kd] at h
    | cons t r => rfl
   cases k with
   | zero => trivial
   | succ k =>
    simp only
    split
    ·
     have := Gr.path_fine lo up first k ts.tail.tail (acc ++ [Gr.hd ts])
     revert this
     cases Gr.path lo up first k ts.tail.tail (acc ++ [Gr.hd ts]) with
     | ok p l r =>
      intro h2
      have h3 : r.length + 1 ≤ ts.tail.tail.length := h2
      have : ts.tail.tail.length ≤ ts.tail.length := by simp
      show r.length + 1 ≤ ts.length
      omega
     | bad r e => intro; trivial
    ·
     split
     ·
      show ts.tail.length + 1 ≤ ts.length
      omega
     ·
      trivial
theorem Gr.PFine.bind {m L L1 : Nat} {a : Gr.PRes} {k : List ByteArray → Bool → Gr.Ts → Gr.Res} (h : Gr.PFine L1 a) (hk : ∀ p l r, r.length + 1 ≤ L1 → Gr.Fine m L (k p l r)) : Gr.Fine m L (a.bind k) := by
 cases a with
 | ok p l r => exact hk p l r h
 | bad r e => trivial

def Gr.Nt.rank : Gr.Nt → Nat
 | .ty => 6 | .pairTy => 5 | .pairGo _ => 0 | .atomTy => 4
 | .pat => 6 | .atomPat => 5 | .restPat => 7
 | .exp => 7 | .cmp => 6 | .sum => 5 | .sumGo _ => 0 | .prod => 4 | .prodGo _ => 0 | .app => 3 | .appGo _ => 2 | .atom => 1
 | .restExp => 8 | .letGo _ => 9 | .case => 8 | .caseGo _ _ => 7
 | .dec => 8 | .decTy _ _ _ => 7 | .decEq _ _ _ _ => 6
def Gr.Nt.least : Gr.Nt → Nat
 | .pairGo _ => 0 | .sumGo _ => 0 | .prodGo _ => 0 | .appGo _ => 0 | _ => 1

theorem Gr.Fine.le {m L m1 L1 : Nat} {a : Gr.Res} (h : Gr.Fine m1 L1 a) (hl : L1 + m ≤ L + m1) : Gr.Fine m L a := by
 cases a with
 | ok v r => have : r.length + m1 ≤ L1 := h; show r.length + m ≤ L; omega
 | bad r e => trivial
 | out => exact h.elim
theorem Gr.Fine.ite {m L : Nat} {x : List UInt8} {ts : Gr.Ts} {a b : Gr.Res} (ha : ts.tail.length + 1 = ts.length → Gr.Fine m L a) (hb : Gr.Fine m L b) : Gr.Fine m L (if Gr.isT x ts = true then a else b) := by
 split
 ·
  next h => exact ha (Gr.isT_len h)
 ·
  exact hb
theorem Gr.Fine.ite2 {m L : Nat} {x y : List UInt8} {ts : Gr.Ts} {a b : Gr.Res} (ha : ts.tail.length + 1 = ts.length → Gr.Fine m L a) (hb : Gr.Fine m L b) : Gr.Fine m L (if (Gr.isT x ts || Gr.isT y ts) = true then a else b) := by
 split
 ·
  next h =>
  rw [Bool.or_eq_true] at h
  exact ha (h.elim Gr.isT_len Gr.isT_len)
 ·
  exact hb
theorem Gr.Fine.kd {m L k : Nat} {ts : Gr.Ts} {a b : Gr.Res} (ha : ts.tail.length + 1 = ts.length → Gr.Fine m L a) (hb : Gr.Fine m L b) : Gr.Fine m L (if Gr.kd ts = k + 1 then a else b) := by
 split
 ·
  next h => exact ha (Gr.kd_len h)
 ·
  exact hb
theorem Gr.Fine.kd2 {m L k l : Nat} {ts : Gr.Ts} {a b : Gr.Res} (ha : ts.tail.length + 1 = ts.length → Gr.Fine m L a) (hb : Gr.Fine m L b) : Gr.Fine m L (if (decide (Gr.kd ts = k + 1) || decide (Gr.kd ts = l + 1)) = true then a else b) := by
 split
 ·
  next h =>
  rw [Bool.or_eq_true] at h
  exact ha (h.elim (fun h => Gr.kd_len (of_decide_eq_true h)) (fun h => Gr.kd_len (of_decide_eq_true h)))
 ·
  exact hb
theorem Gr.Fine.begE {m L : Nat} {ts : Gr.Ts} {a b : Gr.Res} (ha : 1 ≤ ts.length → Gr.Fine m L a) (hb : Gr.Fine m L b) : Gr.Fine m L (if Gr.begE ts = true then a else b) := by
 split
 ·
  next h => exact ha (Gr.begE_len h)
 ·
  exact hb
theorem Gr.Fine.begP {m L : Nat} {ts : Gr.Ts} {a b : Gr.Res} (ha : 1 ≤ ts.length → Gr.Fine m L a) (hb : Gr.Fine m L b) : Gr.Fine m L (if Gr.begP ts = true then a else b) := by
 split
 ·
  next h => exact ha (Gr.begP_len h)
 ·
  exact hb
theorem Gr.Fine.bad {m L : Nat} (r : Gr.Ts) (e : Int) : Gr.Fine m L (.bad r e) := trivial
theorem Gr.Fine.ok {m L : Nat} (v : Nd) (r : Gr.Ts) (h : r.length + m ≤ L) : Gr.Fine m L (.ok v r) := h

set_option maxHeartbeats 1000000 in
theorem Gr.fine : ∀ (f : Nat) (nt : Gr.Nt) (ts : Gr.Ts), 10 * ts.length + nt.rank < f → Gr.Fine nt.least ts.length (Gr.g f nt ts)
 | 0, nt, ts, h => absurd h (Nat.not_lt_zero _)
 | f + 1, nt, ts, h => by
  have use : ∀ (nt' : Gr.Nt) (ts' : Gr.Ts), 10 * ts'.length + nt'.rank < f → Gr.Fine nt'.least ts'.length (Gr.g f nt' ts') := Gr.fine f
  have hlow : ∀ ts, Gr.PFine ts.length (Gr.low ts) := fun ts => Gr.path_fine _ _ _ _ _ _
  have hhigh : ∀ ts, Gr.PFine ts.length (Gr.high ts) := fun ts => Gr.path_fine _ _ _ _ _ _
  have heith : ∀ ts, Gr.PFine ts.length (Gr.either ts) := fun ts => Gr.path_fine _ _ _ _ _ _
  have hlows : ∀ ts, (Gr.lows ts).2.length ≤ ts.length := Gr.lows_len
  cases nt <;> unfold Gr.g <;> simp only [Gr.Nt.rank, Gr.Nt.least] at h ⊢
  all_goals repeat' first
   | exact Gr.Fine.bad _ _
   | (refine Gr.Fine.need fun _ => ?_)
   | (refine Gr.Fine.name fun _ _ => ?_)
   | (refine Gr.Fine.ite (fun _ => ?_) ?_)
   | (refine Gr.Fine.ite2 (fun _ => ?_) ?_)
   | (refine Gr.Fine.kd (fun _ => ?_) ?_)
   | (refine Gr.Fine.kd2 (fun _ => ?_) ?_)
   | (refine Gr.Fine.begE (fun _ => ?_) ?_)
   | (refine Gr.Fine.begP (fun _ => ?_) ?_)
   | (refine Gr.PFine.bind (hlow _) fun _ _ _ _ => ?_)
   | (refine Gr.PFine.bind (hhigh _) fun _ _ _ _ => ?_)
   | (refine Gr.PFine.bind (heith _) fun _ _ _ _ => ?_)
   | (refine Gr.Fine.bind (use _ _ ?_) fun _ _ _ => ?_)
   | (refine Gr.Fine.ok _ _ ?_)
   | (refine (use _ _ ?_).le ?_)
  all_goals simp only [Gr.Nt.rank, Gr.Nt.least] at *
  all_goals first
   | omega
   | (have := hlows ts.tail.tail.tail; simp only [List.length_tail] at *; omega)
end Go.Proofs.YtjebepnphoeiaaaGreatDoor
