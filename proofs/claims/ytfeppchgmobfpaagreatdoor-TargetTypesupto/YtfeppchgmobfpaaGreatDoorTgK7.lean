/- newPutter; Put. -/
import Derived.Test.YtfeppchgmobfpaaGreatDoorTgK4
import Derived.Test.YtfeppchgmobfpaaGreatDoorTgK6
import Derived.Test.YtfeppchgmobfpaaGreatDoorTgX4
namespace Go.Proofs.YtfeppchgmobfpaaGreatDoor
open Go.RowKit
set_option linter.unusedVariables false
set_option linter.unusedSimpArgs false

theorem Gt.sets {L M : Nat} {w : World} {own : Nat → Prop} {e : List (Int × Int)} {F A : Int → Bool} {n : Nat} (h : Gt L M w own e F A n) : ∃ Cf Ca, w.cell? ⟨M, 6, none⟩ = some (.map (some Cf)) ∧ w.cell? ⟨M, 7, none⟩ = some (.map (some Ca)) ∧ SetIs w Cf n F ∧ SetIs w Ca n A ∧ L ≤ Cf ∧ Cf < M ∧ L ≤ Ca ∧ Ca < M ∧ M < w.heap.size := by
  obtain ⟨vs, mv, lv, Cf, Ca, h1, h2, h3, h4, h5, h6, rfl⟩ := h
  exact ⟨Cf, Ca, (h1.arr.cell 6).trans h2, (h1.arr.cell 7).trans h3, h4, h5, h6.1, h6.2.1, h6.2.2.1, h6.2.2.2.1, h1.arr.lt⟩
theorem SetIs.list {w : World} {C n : Nat} {S : Int → Bool} (h : SetIs w C n S) : ∃ l : List Int, l.length ≤ n ∧ ∀ x, S x = decide (x ∈ l) := by
  obtain ⟨D, h1, h2, h3⟩ := h
  obtain ⟨m1, m2⟩ := mem_intKeys h1
  refine ⟨Go.intKeys D, ?_, fun x => ?_⟩
  · have := h1.size_le
    have e : (Go.intKeys D).length = Maps.size D := by
      obtain ⟨es, rfl⟩ := h2
      simp [Go.intKeys, Maps.size]
    omega
  · rw [← h3 x]
    cases hh : Maps.has D (.int .i64 x)
    · exact (decide_eq_false (fun hm => by rw [(m2 x).1 hm] at hh; cases hh)).symm
    · exact (decide_eq_true ((m2 x).2 hh)).symm
theorem SetIs.nocell {w : World} {C n : Nat} {S : Int → Bool} (h : SetIs w C n S) {b o : Nat} {v : Value} (hb : b = C) (hv : w.cell? ⟨b, o, none⟩ = some v) : False := by
  subst hb
  obtain ⟨D, ⟨es, cl, h1, -⟩, -⟩ := h
  simp [World.cell?, h1] at hv
theorem Arr.lowB {w w' : World} {g : Nat} {T : TypeId} {cur : List Value} {B : Nat} (h : Arr w g T cur) (hb : Below B w w') (hg : g < B) : Arr w' g T cur := ⟨by rw [hb.block g hg]; exact h.b⟩
abbrev PW (num : Int) (v0 v1 v2 v3 : Value) (Cc Ct : Nat) : List Value := [.pointer none, .slice none 0 0, .map none, .slice none 0 0, .map none, .slice none 0 0, .int .i64 num, v0, v1, v2, v3, .map (some Cc), .map (some Ct), .int .i64 0]

set_option maxHeartbeats 2000000 in
set_option maxRecDepth 100000 in
theorem newPutter_any (N : Nat) (w : World) (hN : N ≤ w.heap.size) (L Mg : Nat) (own : Nat → Prop) (F A : Int → Bool) (m : Nat) (hG : Gt L Mg w own [] F A m) (num : Int) (hnum : R64 num) (kb : Nat) (us : List Value) (u : Tt) (hu : TAt w (fun b => b < N) kb us u) (hc : u.cnt ≤ 2097152) (hm : m ≤ 576460752303423488) :
    Calls Tryz.prog 43 #[.pointer (some ⟨Mg, 0, none⟩), .int .i64 num, .agg us.toArray] w fun r w' => Below L w w' ∧ ((F num = false ∧ r = .returned (.pointer none)) ∨ (F num = true ∧ ∃ M own' l, r = .returned (.pointer (some ⟨M, 0, none⟩)) ∧ w.heap.size ≤ M ∧ Pt N M num u (u.fv []) l w' own' [] 0 0 ∧ l.length ≤ 1152921504606846976 ∧ ∀ x, decide (x ∈ l) = (A x || u.fv [] x))) := by
  obtain ⟨Cf, Ca, c6, c7, sF, sA, l1, l2, l3, l4, hMl⟩ := hG.sets
  have hLw : L ≤ w.heap.size := by omega
  obtain ⟨a', c', a, c, rfl⟩ := hu.form
  have B1 : Hid (Below w.heap.size w (w.alloc (.cells #[.int .i64 u.k, .int .i64 u.n, .slice a' u.ls.length c', .slice a u.ks.length c] TY))) := bl_alloc (Below.refl _ _) _
  have k6 : ∀ ob, (w.alloc ob).cell? ⟨Mg, 6, none⟩ = some (.map (some Cf)) := fun ob => ((bl_alloc (Below.refl _ _) ob).cell hMl).trans c6
  have sF1 : SetIs (w.alloc (.cells #[.int .i64 u.k, .int .i64 u.n, .slice a' u.ls.length c', .slice a u.ks.length c] TY)) Cf m F := sF.block (B1.out.block Cf (by omega))
  have q1 := sF1.look num hnum
  have HA := hid sA
  have HU := hid hu
  have HC := hid hc
  clear hG hu sF sF1 hnum c6
  cases hF : F num with
  | false =>
    rw [hF] at q1
    clear HA HU HC hm
    go_enter Tryz.func43, Tryz.ntmps43
    go_wp2
    go_ret
    exact ⟨(bl_alloc (bl_alloc (Below.refl _ _) _) _).mono hLw, .inl ⟨trivial, rfl⟩⟩
  | true =>
    rw [hF] at q1
    have B2 : Hid (Below w.heap.size w ((w.alloc (.cells #[.int .i64 u.k, .int .i64 u.n, .slice a' u.ls.length c', .slice a u.ks.length c] TY)).alloc (.cells #[] 55))) := bl_alloc B1.out _
    have hP : PAt ((w.alloc (.cells #[.int .i64 u.k, .int .i64 u.n, .slice a' u.ls.length c', .slice a u.ks.length c] TY)).alloc (.cells #[] 55)) (fun b => b < ((w.alloc (.cells #[.int .i64 u.k, .int .i64 u.n, .slice a' u.ls.length c', .slice a u.ks.length c] TY)).alloc (.cells #[] 55)).heap.size) kb w.heap.size 0 u := by
      rw [size_alloc, size_alloc]
      have h1 := PAt.box ((TAt.old HU.out).move (K' := fun b => b < w.heap.size + 1 + 1) (Keeps.refl _ _) (fun b hb => by have := hb.2; omega)) TY (by show w.heap.size < w.heap.size + 1 + 1; omega)
      exact h1.move (Keeps.of_below (bl_alloc (Below.refl _ _) _)) (fun _ h => h)
    have GQ := hid (gatheredOf_any _ kb _ _ u hP HC.out)
    rw [size_alloc, size_alloc] at GQ
    clear hP
    have A2 : Hid (Arr ((w.alloc (.cells #[.int .i64 u.k, .int .i64 u.n, .slice a' u.ls.length c', .slice a u.ks.length c] TY)).alloc (.cells #[] 55)) w.heap.size TY [.int .i64 u.k, .int .i64 u.n, .slice a' u.ls.length c', .slice a u.ks.length c]) := Arr.stays ⟨heap_alloc_at _ _⟩ (bl_alloc (Below.refl _ _) _)
    have S2 : Hid (w.heap.size + 1 + 1 = ((w.alloc (.cells #[.int .i64 u.k, .int .i64 u.n, .slice a' u.ls.length c', .slice a u.ks.length c] TY)).alloc (.cells #[] 55)).heap.size) := by show _ = _; rw [size_alloc, size_alloc]
    have PF : Hid (∀ (w4 : World) (M3 Cf3 : Nat) (l : List Int), Below L w w4 → w.heap.size ≤ Cf3 → Cf3 < w4.heap.size → Ca < w4.heap.size → TAt w4 (fun b => b < N) kb [.int .i64 u.k, .int .i64 u.n, .slice a' u.ls.length c', .slice a u.ks.length c] u → (∃ mm, SetIs w4 Cf3 mm (u.fv [])) → (∃ mm, SetIs w4 Ca mm (fun x => A x || u.fv [] x)) → w.heap.size ≤ w4.heap.size → l.length ≤ 1152921504606846976 → (∀ x, (A x || u.fv [] x) = decide (x ∈ l)) → M3 = w4.heap.size → Below L w ((w4.alloc (.cells (PW num (.int .i64 u.k) (.int .i64 u.n) (.slice a' u.ls.length c') (.slice a u.ks.length c) Cf3 Ca).toArray PT)).drew) ∧ ((true = false ∧ (Ending.returned (.pointer (some ⟨M3, 0, none⟩))) = .returned (.pointer none)) ∨ (True ∧ ∃ M own' l, (Ending.returned (.pointer (some ⟨M3, 0, none⟩))) = .returned (.pointer (some ⟨M, 0, none⟩)) ∧ w.heap.size ≤ M ∧ Pt N M num u (u.fv []) l ((w4.alloc (.cells (PW num (.int .i64 u.k) (.int .i64 u.n) (.slice a' u.ls.length c') (.slice a u.ks.length c) Cf3 Ca).toArray PT)).drew) own' [] 0 0 ∧ l.length ≤ 1152921504606846976 ∧ ∀ x, decide (x ∈ l) = (A x || u.fv [] x)))) := by
      intro w4 M3 Cf3 l hB h1 h2 h3 hT hS1 hS2 hle hll hl hM3
      subst hM3
      have hb5 : Below w4.heap.size w4 ((w4.alloc (.cells (PW num (.int .i64 u.k) (.int .i64 u.n) (.slice a' u.ls.length c') (.slice a u.ks.length c) Cf3 Ca).toArray PT)).drew) := (bl_alloc (Below.refl _ _) _).drew
      have hA5 : Arr ((w4.alloc (.cells (PW num (.int .i64 u.k) (.int .i64 u.n) (.slice a' u.ls.length c') (.slice a u.ks.length c) Cf3 Ca).toArray PT)).drew) w4.heap.size PT (PW num (.int .i64 u.k) (.int .i64 u.n) (.slice a' u.ls.length c') (.slice a u.ks.length c) Cf3 Ca) := Arr.stays ⟨heap_alloc_at _ _⟩ (Below.refl _ _).drew
      obtain ⟨m1, hS1⟩ := hS1
      obtain ⟨m2, hS2⟩ := hS2
      refine ⟨hB.trans (hb5.mono (Nat.le_trans hLw hle)), .inr ⟨trivial, w4.heap.size, _, l, rfl, hle, ⟨⟨PW num (.int .i64 u.k) (.int .i64 u.n) (.slice a' u.ls.length c') (.slice a u.ks.length c) Cf3 Ca, .map none, .slice none 0 0, Cf3, Ca, [.int .i64 u.k, .int .i64 u.n, .slice a' u.ls.length c', .slice a u.ks.length c], kb, ⟨hA5, rfl, rfl, rfl, rfl, Scp.init _ _, by omega, by show _ ≤ (w4.alloc _).heap.size; simp⟩, rfl, fun j v hv => ?_, hT.below hb5, rfl, rfl, rfl, ⟨m1, hS1.block (hb5.block Cf3 h2)⟩, ⟨m2, _, hS2.block (hb5.block Ca h3), hl⟩, ⟨h2, h3, by omega⟩, rfl⟩, Int.le_refl _⟩, hll, fun x => (hl x).symm⟩⟩
      match j, hv with
      | 0, hv => exact hv
      | 1, hv => exact hv
      | 2, hv => exact hv
      | 3, hv => exact hv
      | j + 4, hv => simp at hv
    go_enter Tryz.func43, Tryz.ntmps43
    go_wp2_with (first
      | (go_at_call 29; refine (GQ.out).mono ?_; rintro r w3 ⟨rfl, ⟨own3, hG3⟩, hB3⟩; obtain ⟨Cf3, Ca3, z6, -, sF3, -, p1, p2, -, -, p5⟩ := hG3.sets; have B3 : Hid (Below w.heap.size w w3) := B2.out.trans (hB3.mono (by omega)); have A3 := hid (A2.out.stays (hB3.mono (by rw [← S2.out]; exact Nat.le_refl _) : Below _ _ _)); have z7 : w3.cell? ⟨Mg, 7, none⟩ = some (.map (some Ca)) := (B3.out.cell hMl).trans c7; have CQ := hid (copy_any w3 Ca Cf3 m (u.cnt * 8388608) A (u.fv []) (HA.out.block (B3.out.block Ca (by omega))) sF3 (by omega) (by have := HC.out; omega)); have SF3 := hid sF3; have hM3 : Mg < w3.heap.size := (by have := B3.out.size; omega); clear hG3 hB3 sF3)
      | (go_at_call 93; refine (CQ.out).mono ?_; rintro r w4 ⟨rfl, hS4, hg4⟩; have A4 : Arr w4 w.heap.size TY _ := ⟨(grown_ne hg4 A3.out.lt (by omega)).trans A3.out.b⟩; have y4 := A4.cell; have z74 : w4.cell? ⟨Mg, 7, none⟩ = some (.map (some Ca)) := (World.cell?_of_block (w := w3) (a := ⟨Mg, 7, none⟩) (grown_ne hg4 hM3 (by show Mg ≠ Ca; omega))).trans z7; have y5 : ∀ ob, (w4.alloc ob).cell? ⟨Mg, 7, none⟩ = some (.map (some Ca)) := (fun ob => ((bl_alloc (Below.refl _ _) ob).cell (World.block_lt_of_cell? w4 _ z74)).trans z74); have HS4 := hid hS4; have HG4 := hid hg4; have HA4 := hid A4; clear hS4 hg4 A4))
    go_region
    obtain ⟨l, hl1, hl2⟩ := HS4.out.list
    have hb4 : Below L w3 w4 := ⟨HG4.out.os, HG4.out.tape, HG4.out.output, HG4.out.size, fun b hb => HG4.out.block b (by have := B3.out.size; omega) (fun e => by have := Option.some.inj e; omega)⟩
    have hs4 := HG4.out.size
    have hs3 := B3.out.size
    have hTu : TAt w4 (fun b => b < N) kb [.int .i64 u.k, .int .i64 u.n, .slice a' u.ls.length c', .slice a u.ks.length c] u := HU.out.move (fun b oo v hb hv => (World.cell?_of_block (w := w3) (a := ⟨b, oo, none⟩) (HG4.out.block b (by have : b < N := hb; omega) (fun e => HA.out.nocell (Option.some.inj e) hv))).trans ((B3.out.cell (p := ⟨b, oo, none⟩) (Nat.lt_of_lt_of_le hb hN)).trans hv)) (fun _ h => h)
    go_wp2
    go_ret
    exact PF.out w4 _ Cf3 l ((B3.out.mono hLw).trans hb4) (by omega) (by omega) (by omega) hTu ⟨_, SF3.out.block (HG4.out.block Cf3 (by omega) (fun e => by have := Option.some.inj e; omega))⟩ ⟨_, HS4.out⟩ (by omega) (by have := HC.out; omega) hl2 rfl
end Go.Proofs.YtfeppchgmobfpaaGreatDoor
