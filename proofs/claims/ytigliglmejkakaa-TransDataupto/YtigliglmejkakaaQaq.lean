/- The document's around. The document's RightScheme. -/
import Derived.Test.YtigliglmejkakaaQap
import Derived.Test.YtigliglmejkakaaQao
import Derived.Test.YtigliglmejkakaaQan
import Derived.Test.YtigliglmejkakaaQah
namespace Go.Proofs.Ytigliglmejkakaa
open Go.RowKit
set_option linter.unusedVariables false
set_option linter.unusedSimpArgs false

/-- A type with binders around it, the first one outermost. -/
def Tt.around (kind : Int) (l : List Int) (y : Tgt.Tt) : Tgt.Tt := l.foldr (fun n t => .mk kind n [] [t]) y
theorem around_at {kind : Int} {l : List Int} {k : Nat} {x : Int} (hx : l[k]? = some x) (y : Tgt.Tt) : Tt.around kind (l.drop k) y = .mk kind x [] [Tt.around kind (l.drop (k + 1)) y] := by
  obtain ⟨h1, e1⟩ := List.getElem?_eq_some_iff.1 hx
  rw [List.drop_eq_getElem_cons h1, e1]
  rfl
/-- One node around another. -/
theorem tat_wrap {W : World} {K : Nat → Prop} {N nb : Nat} {kind x : Int} {y : Tgt.Tt} {vs : List Value} (hk : Tgt.R64 kind) (hx : Tgt.R64 x) (hT : Tgt.TAt W K N vs y) (hnb : K nb) (hc : Tgt.Cells W nb 0 vs) : Tgt.TAt W K (N + 1) [.int .i64 kind, .int .i64 x, .slice none 0 0, .slice (some ⟨nb, 0, none⟩) 1 1] (.mk kind x [] [y]) := by
  refine ⟨_, _, rfl, hk, hx, .inr ⟨rfl, none, 0, rfl⟩, .inl ⟨nb, 0, 1, rfl, hnb, Nat.le_refl _, by unfold maxLen; simp [Tgt.Tt.ks], fun i z hz => ?_⟩⟩
  match i, hz with
  | 0, hz =>
    simp [Tgt.Tt.ks] at hz
    subst hz
    exact ⟨vs, by simpa using hc, hT⟩
  | i + 1, hz => simp [Tgt.Tt.ks] at hz

set_option maxHeartbeats 4000000 in
set_option maxRecDepth 100000 in
theorem around_any (w : World) (KQ : Nat → Prop) (kind : Int) (hkind : Tgt.R64 kind) (lv : Value) (l : List Int) (hl : Ls w Any lv l) (hl64 : ∀ x ∈ l, R64 x) (n : Nat) (vs : List Value) (y : Tgt.Tt) (hT : Tgt.TAt w KQ n vs y) :
    Calls Try.prog 31 #[.int .i64 kind, lv, .agg vs.toArray] w fun e w' => ∃ a' c' a c N, e = .returned (.agg #[.int .i64 (Tt.around kind l y).k, .int .i64 (Tt.around kind l y).n, .slice a' (Tt.around kind l y).ls.length c', .slice a (Tt.around kind l y).ks.length c]) ∧ Tgt.TAt w' (fun b => (KQ b ∧ b < w.heap.size) ∨ w.heap.size + 2 ≤ b) N [.int .i64 (Tt.around kind l y).k, .int .i64 (Tt.around kind l y).n, .slice a' (Tt.around kind l y).ls.length c', .slice a (Tt.around kind l y).ks.length c] (Tt.around kind l y) ∧ Below w.heap.size w w' := by
  obtain ⟨a', c', a, c, rfl⟩ := hT.form
  obtain ⟨la, lc, rfl, hlm⟩ := hl.form
  unfold maxLen at hlm
  have HL := hid hl
  have HL64 := hid hl64
  have HB2 : Hid (Below w.heap.size w ((w.alloc (.cells #[.int .i64 y.k, .int .i64 y.n, .slice a' y.ls.length c', .slice a y.ks.length c] 30)).alloc (.cells #[.int .i64 0, .int .i64 0, .slice none 0 0, .slice none 0 0] 30))) := bl_alloc (bl_alloc (Below.refl _ _) _) _
  have X2 : Hid (Arr ((w.alloc (.cells #[.int .i64 y.k, .int .i64 y.n, .slice a' y.ls.length c', .slice a y.ks.length c] 30)).alloc (.cells #[.int .i64 0, .int .i64 0, .slice none 0 0, .slice none 0 0] 30)) w.heap.size 30 [.int .i64 y.k, .int .i64 y.n, .slice a' y.ls.length c', .slice a y.ks.length c]) := Arr.stays ⟨heap_alloc_at _ _⟩ (bl_alloc (Below.refl _ _) _)
  have Y2 : Hid (Arr ((w.alloc (.cells #[.int .i64 y.k, .int .i64 y.n, .slice a' y.ls.length c', .slice a y.ks.length c] 30)).alloc (.cells #[.int .i64 0, .int .i64 0, .slice none 0 0, .slice none 0 0] 30)) (w.heap.size + 1) 30 [.int .i64 0, .int .i64 0, .slice none 0 0, .slice none 0 0]) := ⟨by have := heap_alloc_at (w.alloc (.cells #[.int .i64 y.k, .int .i64 y.n, .slice a' y.ls.length c', .slice a y.ks.length c] 30)) (.cells #[.int .i64 0, .int .i64 0, .slice none 0 0, .slice none 0 0] 30); rw [size_alloc] at this; exact this⟩
  have T2 : Hid (Tgt.TAt ((w.alloc (.cells #[.int .i64 y.k, .int .i64 y.n, .slice a' y.ls.length c', .slice a y.ks.length c] 30)).alloc (.cells #[.int .i64 0, .int .i64 0, .slice none 0 0, .slice none 0 0] 30)) (fun b => (KQ b ∧ b < w.heap.size) ∨ w.heap.size + 2 ≤ b) n [.int .i64 y.k, .int .i64 y.n, .slice a' y.ls.length c', .slice a y.ks.length c] y) := (hT.old.below HB2.out).move (Tgt.Keeps.refl _ _) (fun b hb => .inl hb)
  have hws : IntKind.i64.wrap ((l.length : Int) - 1) = (l.length : Int) - 1 := by rw [IntKind.wrap_i64]; omega
  clear hT hl hl64
  go_enter Try.func31, Try.ntmps31
  go_wp2
  generalize ((w.alloc (.cells #[.int .i64 y.k, .int .i64 y.n, .slice a' y.ls.length c', .slice a y.ks.length c] 30)).alloc (.cells #[.int .i64 0, .int .i64 0, .slice none 0 0, .slice none 0 0] 30)) = W1 at HB2 X2 Y2 T2 ⊢
  go_loopw [7] (fun v wr => ∃ (j : Nat) (z : Tgt.Tt) (N : Nat) (az' : Option Addr) (cz' : Nat) (az : Option Addr) (cz : Nat), v = .int .i64 ((j : Int) - 1) ∧ j ≤ l.length ∧ Hid (Tt.around kind l y = Tt.around kind (l.take j) z) ∧ Hid (Tt.around kind (l.drop j) y = z) ∧ Hid (Arr wr w.heap.size 30 [.int .i64 z.k, .int .i64 z.n, .slice az' z.ls.length cz', .slice az z.ks.length cz]) ∧ Hid (Arr wr (w.heap.size + 1) 30 [.int .i64 0, .int .i64 0, .slice none 0 0, .slice none 0 0]) ∧ Hid (Tgt.TAt wr (fun b => (KQ b ∧ b < w.heap.size) ∨ w.heap.size + 2 ≤ b) N [.int .i64 z.k, .int .i64 z.n, .slice az' z.ls.length cz', .slice az z.ks.length cz] z) ∧ Hid (Below w.heap.size w wr)) (fun v _ => (intOf v + 1).toNat)
  case atStart => exact ⟨l.length, y, n, a', c', a, c, by first | rfl | (rw [hws]), Nat.le_refl _, by show _ = _; rw [List.take_length], by show _ = _; rw [List.drop_length]; rfl, X2, Y2, T2, HB2⟩
  case round =>
    obtain ⟨j, z, N, az', cz', az, cz, rfl, hjl, hA1, hA2, hX, hY, hTz, hB⟩ := hrel
    clear HB2 X2 Y2 T2 W1
    have x0 := hX.out.cell
    have x1 := hX.out.frozen
    by_cases h0 : 0 < j
    · obtain ⟨i, rfl⟩ : ∃ i, j = i + 1 := ⟨j - 1, by omega⟩
      have hji : ((i + 1 : Nat) : Int) - 1 = (i : Int) := by omega
      rw [hji]
      obtain ⟨x, hx⟩ : ∃ x, l[i]? = some x := ⟨_, List.getElem?_eq_getElem (by omega)⟩
      obtain ⟨lb, lo, lc', hv, -, -, -, hlc⟩ := HL.out.resolve_right (fun h => by rw [h.1] at hjl; exact absurd hjl (by simp))
      injection hv with e1 e2 e3
      subst e1
      have hlt : i < l.length := by omega
      have HU : Hid (∀ wz, Below w.heap.size w wz → wz.cell? ⟨lb, lo + i, none⟩ = some (.int .i64 x)) := fun wz hz => (hz.cell (p := ⟨lb, lo + i, none⟩) (World.block_lt_of_cell? _ _ (hlc i x hx))).trans (hlc i x hx)
      have hx64 := HL64.out x (List.mem_of_getElem? hx)
      have HN1 : Hid (Tt.around kind l y = Tt.around kind (l.take i) (.mk kind x [] [z])) := by
        show _ = _
        rw [hA1.out, List.take_add_one, hx]
        unfold Tt.around
        rw [List.foldr_append]
        rfl
      have HN2 : Hid (Tt.around kind (l.drop i) y = .mk kind x [] [z]) := by show _ = _; rw [around_at hx, hA2.out]
      have hws2 : IntKind.i64.wrap ((i : Int) - 1) = (i : Int) - 1 := by rw [IntKind.wrap_i64]; omega
      have HTd := hid (hTz.out.below (Below.refl wr.heap.size wr).drew)
      have HXd := hid (hX.out.stays (Below.refl _ _).drew)
      have HYd := hid (hY.out.stays (Below.refl _ _).drew)
      have d0 := HXd.out.cell
      have d1 := HXd.out.frozen
      have hs0 := hid hB.out.drew
      have e0 := fun o => (HXd.out.stays (bl_alloc (Below.refl _ _) o)).cell
      have e1 := fun o => (HXd.out.stays (bl_alloc (Below.refl _ _) o)).frozen
      have hst : ∀ (W : World) i u, Below w.heap.size w W → Below w.heap.size w (W.setCell ⟨w.heap.size, i, none⟩ u) := fun W i u h => bl_set _ _ h (Nat.le_refl _)
      have hsz : w.heap.size + 2 ≤ wr.drew.heap.size := HYd.out.lt
      clear hx hA1 hA2 hlc e2 e3 hX hY hTz x0 x1
      go_wp2
      refine wp_region_held_drew (S := fun wz => Below w.heap.size w wz) (by kernel_rfl) (hs0.out) (fun hS => ?_)
      generalize wr.drew = wd at hS HTd HXd HYd d0 d1 hsz e0 e1 ⊢
      refine wpAnyH_take (i := 0) (v := ?_) rfl (by kernel_rfl) (by kernel_rfl) (by kernel_rfl) (fun _ _ _ h => h) (Or.inl ⟨by rfl, ?_⟩) hS ?_
      rotate_left
      · intro wz hz; go_simp; try with_reducible rfl
      try simp only [Act.put, List.setIfInBounds_toArray, List.set_cons_zero, List.set_cons_succ, List.getElem_toArray, List.getElem_cons_succ, List.getElem_cons_zero]
      refine wpAnyH_take (i := 1) (v := ?_) rfl (by kernel_rfl) (by kernel_rfl) (by kernel_rfl) (fun _ _ _ h => h) (Or.inl ⟨by rfl, ?_⟩) hS ?_
      rotate_left
      · intro wz hz; go_simp; try with_reducible rfl
      try simp only [Act.put, List.setIfInBounds_toArray, List.set_cons_zero, List.set_cons_succ, List.getElem_toArray, List.getElem_cons_succ, List.getElem_cons_zero]
      refine wpAnyH_take (i := 2) (v := ?_) rfl (by kernel_rfl) (by kernel_rfl) (by kernel_rfl) (fun _ _ _ h => h) (Or.inl ⟨by rfl, ?_⟩) hS ?_
      rotate_left
      · intro wz hz; go_simp; try with_reducible rfl
      try simp only [Act.put, List.setIfInBounds_toArray, List.set_cons_zero, List.set_cons_succ, List.getElem_toArray, List.getElem_cons_succ, List.getElem_cons_zero]
      refine wpAnyH_take (i := 3) (v := ?_) rfl (by kernel_rfl) (by kernel_rfl) (by kernel_rfl) (fun _ _ _ h => h) (Or.inl ⟨by rfl, ?_⟩) hS ?_
      rotate_left
      · intro wz hz; go_simp; try with_reducible rfl
      try simp only [Act.put, List.setIfInBounds_toArray, List.set_cons_zero, List.set_cons_succ, List.getElem_toArray, List.getElem_cons_succ, List.getElem_cons_zero]
      refine wpAnyH_take (i := 4) (v := ?_) rfl (by kernel_rfl) (by kernel_rfl) (by kernel_rfl) (fun _ _ _ h => h) (Or.inl ⟨by rfl, ?_⟩) hS ?_
      rotate_left
      · intro wz hz; have yy0 := HU.out wz hz; go_simp; try with_reducible rfl
      try simp only [Act.put, List.setIfInBounds_toArray, List.set_cons_zero, List.set_cons_succ, List.getElem_toArray, List.getElem_cons_succ, List.getElem_cons_zero]
      refine wpAnyH_ready (rs := [5]) (by kernel_rfl) (by simp) (AllReadyH.cons rfl (fun K hK => ?a1_5) AllReadyH.nil)
      case' a1_5 =>
        go_simp
        refine hK.out _ _ (hS) (fun hSn => ?_)
        clear hK K hS
        have hS := hSn
        clear hSn
        try simp only [Act.put, List.setIfInBounds_toArray, List.set_cons_zero, List.set_cons_succ, List.getElem_toArray, List.getElem_cons_succ, List.getElem_cons_zero]
        refine wpAnyH_ready (rs := [6]) (by kernel_rfl) (by simp) (AllReadyH.cons rfl (fun K hK => ?a2_6) AllReadyH.nil)
        case' a2_6 =>
          go_simp
          refine hK.out _ _ (bl_alloc hS _) (fun hSn => ?_)
          clear hK K hS
          have hS := hSn
          clear hSn
          try simp only [Act.put, List.setIfInBounds_toArray, List.set_cons_zero, List.set_cons_succ, List.getElem_toArray, List.getElem_cons_succ, List.getElem_cons_zero]
          refine wpAnyH_take (i := 7) (v := ?_) rfl (by kernel_rfl) (by kernel_rfl) (by kernel_rfl) (fun _ _ _ h => h) (Or.inl ⟨by rfl, ?_⟩) hS ?_
          rotate_left
          · intro wz hz; go_simp; try with_reducible rfl
          try simp only [Act.put, List.setIfInBounds_toArray, List.set_cons_zero, List.set_cons_succ, List.getElem_toArray, List.getElem_cons_succ, List.getElem_cons_zero]
          refine wpAnyH_ready (rs := [8]) (by kernel_rfl) (by simp) (AllReadyH.cons rfl (fun K hK => ?a3_8) AllReadyH.nil)
          case' a3_8 =>
            go_simp
            refine hK.out _ _ (hst _ _ _ (hst _ _ _ (hst _ _ _ (hst _ _ _ hS)))) (fun hSn => ?_)
            clear hK K hS
            have hS := hSn
            clear hSn
            try simp only [Act.put, List.setIfInBounds_toArray, List.set_cons_zero, List.set_cons_succ, List.getElem_toArray, List.getElem_cons_succ, List.getElem_cons_zero]
            refine wpAnyH_done (by kernel_rfl) ?_ _
      have HAL := hid (bl_alloc (Below.refl wd.heap.size wd) (.cells #[.int .i64 z.k, .int .i64 z.n, .slice az' z.ls.length cz', .slice az z.ks.length cz] 30))
      have HX9 := hid (((((HXd.out.stays HAL.out).set 0 (.int .i64 kind)).set 1 (.int .i64 x)).set 2 (.slice none 0 0)).set 3 (.slice (some ⟨wd.heap.size, 0, none⟩) 1 1))
      simp only [List.set_cons_zero, List.set_cons_succ] at HX9
      have ny : w.heap.size + 1 ≠ w.heap.size := by omega
      have HY9 := hid (((((HYd.out.stays HAL.out).other (p := ⟨w.heap.size, 0, none⟩) ny (.int .i64 kind)).other (p := ⟨w.heap.size, 1, none⟩) ny (.int .i64 x)).other (p := ⟨w.heap.size, 2, none⟩) ny (.slice none 0 0)).other (p := ⟨w.heap.size, 3, none⟩) ny (.slice (some ⟨wd.heap.size, 0, none⟩) 1 1))
      have hK : ∀ (W : World) i u, Tgt.Keeps (fun b => (KQ b ∧ b < w.heap.size) ∨ w.heap.size + 2 ≤ b) W (W.setCell ⟨w.heap.size, i, none⟩ u) := fun W i u b o v hb hv => by
        have hb : (KQ b ∧ b < w.heap.size) ∨ w.heap.size + 2 ≤ b := hb
        rw [World.cell?_of_block (w := W) (Below.heap_setCell _ _ _ _ (by show b ≠ w.heap.size; rcases hb with hb | hb <;> omega))]
        exact hv
      have HCN : Hid (Tgt.Cells (wd.alloc (.cells #[.int .i64 z.k, .int .i64 z.n, .slice az' z.ls.length cz', .slice az z.ks.length cz] 30)) wd.heap.size 0 [.int .i64 z.k, .int .i64 z.n, .slice az' z.ls.length cz', .slice az z.ks.length cz]) := fun i u hu => by rw [Nat.zero_add, cell_at (heap_alloc_at _ _)]; simpa using hu
      have HT9 := hid (tat_wrap (nb := wd.heap.size) hkind hx64 ((HTd.out.below HAL.out).move ((((hK _ 0 (.int .i64 kind)).trans (hK _ 1 (.int .i64 x))).trans (hK _ 2 (.slice none 0 0))).trans (hK _ 3 (.slice (some ⟨wd.heap.size, 0, none⟩) 1 1))) (fun b hb => hb)) (.inr hsz) (fun i u hu => ((((hK _ 0 (.int .i64 kind)).trans (hK _ 1 (.int .i64 x))).trans (hK _ 2 (.slice none 0 0))).trans (hK _ 3 (.slice (some ⟨wd.heap.size, 0, none⟩) 1 1))) _ _ _ (.inr hsz) (HCN.out i u hu)))
      have HS9 := hid hS
      clear hS d0 d1 e0 e1 HCN HTd HXd HYd
      go_wp2
      go_roundw
      case rel => exact ⟨i, .mk kind x [] [z], N + 1, none, 0, some ⟨wd.heap.size, 0, none⟩, 1, by first | rfl | (rw [hws2]), by omega, HN1, HN2, HX9, HY9, HT9, HS9⟩
      case measure => simp [intOf, hws2]
    · obtain rfl : j = 0 := by omega
      have hneg : (((0 : Nat) : Int) - 1) = -1 := by omega
      rw [hneg]
      have HZ : Hid (Tt.around kind l y = z) := by show _ = _; rw [hA1.out]; rfl
      have y0 := hY.out.cell
      have y1 := hY.out.frozen
      clear hA1 hA2 HL HL64
      go_wp2
      refine bodyPost_ret (v := .agg #[.int .i64 z.k, .int .i64 z.n, .slice az' z.ls.length cz', .slice az z.ks.length cz]) (by rw [results_cell1 (fn := Try.f31) (p := 6) (ty := 30) (by kernel_rfl)]; simp [go_sem, y0, y1]) rfl ?_
      have hs : ∀ (W : World) i u, Below w.heap.size w W → Below w.heap.size w (W.setCell ⟨w.heap.size + 1, i, none⟩ u) := fun W i u h => bl_set _ _ h (by show _ ≤ w.heap.size + 1; omega)
      have hK : ∀ (W : World) i u, Tgt.Keeps (fun b => (KQ b ∧ b < w.heap.size) ∨ w.heap.size + 2 ≤ b) W (W.setCell ⟨w.heap.size + 1, i, none⟩ u) := fun W i u b o v hb hv => by
        have hb : (KQ b ∧ b < w.heap.size) ∨ w.heap.size + 2 ≤ b := hb
        rw [World.cell?_of_block (w := W) (Below.heap_setCell _ _ _ _ (by show b ≠ w.heap.size + 1; rcases hb with hb | hb <;> omega))]
        exact hv
      rw [HZ.out]
      exact ⟨az', cz', az, cz, N, rfl, hTz.out.move (((hK _ _ _).trans (hK _ _ _)).trans ((hK _ _ _).trans (hK _ _ _))) (fun b hb => hb), hs _ _ _ (hs _ _ _ (hs _ _ _ (hs _ _ _ hB.out)))⟩
end Go.Proofs.Ytigliglmejkakaa

namespace Go.Proofs.Ytigliglmejkakaa
open Go.RowKit
set_option linter.unusedVariables false
set_option linter.unusedSimpArgs false

set_option maxHeartbeats 1000000 in
set_option maxRecDepth 100000 in
theorem refRightScheme_any (w : World) (n : Nat) (g : Int) (vs : List Value) (t : Tp) (hT : TAt w Any n vs t) (hc : t.cnt ≤ 1048576) : Calls Try.prog 29 #[.agg (.int .i64 g :: vs).toArray] w fun e w' => e = .returned (.bool (Tp.rightS g t)) ∧ Below w.heap.size w w' := by
  have hR : Hid (∀ o, Calls Try.prog 21 #[.agg vs.toArray] (w.alloc o) fun e w' => e = .returned (.bool t.right) ∧ Below (w.alloc o).heap.size (w.alloc o) w') := fun o => refRight_any n _ vs t (hT.below (bl_alloc (Below.refl _ _) _))
  have hG : Hid (∀ wz, Below w.heap.size w wz → Calls Try.prog 46 #[.agg vs.toArray] wz fun e w' => ∃ p c, e = .returned (.slice p (Tp.found 8 t []).length c) ∧ Ls w' Any (.slice p (Tp.found 8 t []).length c) (Tp.found 8 t []) ∧ Below wz.heap.size wz w') := fun wz hz => refGens_any _ n vs t (hT.below hz) hc
  have hD : Hid (Tp.rightS g t = (t.right && (Tp.ups (Tp.found 8 t []) 0 && decide (((Tp.found 8 t []).length : Int) = g)))) := rfl
  obtain ⟨a, c, rfl⟩ := hT.form
  have HB : Hid (∀ o, Below w.heap.size w (w.alloc o)) := fun o => bl_alloc (Below.refl _ _) o
  generalize Tp.rightS g t = r at hD
  clear hT hc
  cases hr : t.right with
  | false =>
    rw [hr] at hR hD
    have hD' := hD.out
    rw [Bool.false_and] at hD'
    subst hD'
    go_enter Try.func29, Try.ntmps29
    go_wp2_with (go_at_call 21; refine (hR.out _).mono ?_; rintro e w2 ⟨rfl, hb2⟩)
    go_ret
    exact ⟨rfl, bl_tr (HB.out _) hb2⟩
  | true =>
    rw [hr] at hR hD
    have HD : Hid (r = (Tp.ups (Tp.found 8 t []) 0 && decide (((Tp.found 8 t []).length : Int) = g))) := by show r = _; rw [hD.out, Bool.true_and]
    clear hD hr
    generalize Tp.found 8 t [] = l at hG HD
    by_cases hg : (l.length : Int) = g
    · have HE : Hid (r = Tp.ups l 0) := by show r = _; rw [HD.out, decide_eq_true hg, Bool.and_true]
      have hq : ((l.length : Int) == g) = true := by rw [beq_iff_eq]; exact hg
      clear HD hg
      go_enter Try.func29, Try.ntmps29
      go_wp2_with (first | (go_at_call 21; refine (hR.out _).mono ?_; rintro e w2 ⟨rfl, hb2⟩; have x0 := hb2.cell (p := ⟨w.heap.size, 0, none⟩) (by simp); have x1 := hb2.cell (p := ⟨w.heap.size, 1, none⟩) (by simp); have x2 := hb2.cell (p := ⟨w.heap.size, 2, none⟩) (by simp); have x3 := hb2.cell (p := ⟨w.heap.size, 3, none⟩) (by simp); simp [go_sem] at x0 x1 x2 x3) | (go_at_call 46; refine (hG.out _ (bl_tr (HB.out _) hb2)).mono ?_; rintro e w3 ⟨p3, c3, rfl, hl3, hb3⟩; have hm3 : l.length ≤ maxLen := (let ⟨_, _, _, hm⟩ := hl3.form; hm); have y0 := hb3.cell (p := ⟨w.heap.size, 0, none⟩) (World.block_lt_of_cell? _ _ x0); rw [x0] at y0; have HL : Hid (Ls w3 Any _ l) := hl3; clear hl3))
      unfold maxLen at hm3
      have HBB : Hid (Below w.heap.size w w3) := bl_tr (bl_tr (HB.out _) hb2) hb3
      clear hR hG HB hb2 hb3 x0 x1 x2 x3
      go_loopw [4] (fun v wr => ∃ k : Nat, v = .int .i64 k ∧ k ≤ l.length ∧ Hid (r = Tp.ups (l.drop k) k) ∧ wr = w3) (fun v _ => l.length - (intOf v).toNat)
      case atStart => exact ⟨0, rfl, Nat.zero_le _, HE, rfl⟩
      case round =>
        obtain ⟨k, rfl, hk, hH, rfl⟩ := hrel
        by_cases hlt : k < l.length
        · obtain ⟨b, o, c', hv, -, -, -, hl⟩ := HL.out.resolve_right (fun h => by rw [h.1] at hlt; exact absurd hlt (Nat.not_lt_zero _))
          injection hv with e1 e2 e3
          subst e1
          obtain ⟨x, hx⟩ : ∃ x, l[k]? = some x := ⟨_, List.getElem?_eq_getElem hlt⟩
          have hc := hl k x hx
          have HX := hH.out
          rw [Tp.ups_at hx] at HX
          clear hl hx hH e2 e3
          by_cases he : x = k
          · rw [decide_eq_true he, Bool.true_and] at HX
            have HY := hid HX
            clear HX
            have ht : (x == (k : Int)) = true := by rw [he]; simp
            clear he
            go_wp2
            go_roundw
            case rel => exact ⟨k + 1, by go_num, by omega, HY, by trivial⟩
            case measure => simp [intOf]; omega
          · rw [decide_eq_false he, Bool.false_and] at HX
            subst HX
            have ht : (x == (k : Int)) = false := by simpa using he
            clear he
            go_wp2
            go_ret
            exact ⟨rfl, HBB.out⟩
        · have HX := hH.out
          rw [List.drop_eq_nil_of_le (by omega), Tp.ups] at HX
          have HY := hid HX
          clear HX hH
          go_wp2
          go_ret
          rw [HY.out]
          exact ⟨rfl, HBB.out⟩
    · have HE : r = false := by rw [HD.out, decide_eq_false hg, Bool.and_false]
      have hq : ((l.length : Int) == g) = false := by rw [beq_eq_false_iff_ne]; exact hg
      subst HE
      clear HD hg
      go_enter Try.func29, Try.ntmps29
      go_wp2_with (first | (go_at_call 21; refine (hR.out _).mono ?_; rintro e w2 ⟨rfl, hb2⟩; have x0 := hb2.cell (p := ⟨w.heap.size, 0, none⟩) (by simp); have x1 := hb2.cell (p := ⟨w.heap.size, 1, none⟩) (by simp); have x2 := hb2.cell (p := ⟨w.heap.size, 2, none⟩) (by simp); have x3 := hb2.cell (p := ⟨w.heap.size, 3, none⟩) (by simp); simp [go_sem] at x0 x1 x2 x3) | (go_at_call 46; refine (hG.out _ (bl_tr (HB.out _) hb2)).mono ?_; rintro e w3 ⟨p3, c3, rfl, hl3, hb3⟩; have hm3 : l.length ≤ maxLen := (let ⟨_, _, _, hm⟩ := hl3.form; hm); have y0 := hb3.cell (p := ⟨w.heap.size, 0, none⟩) (World.block_lt_of_cell? _ _ x0); rw [x0] at y0; have HL : Hid (Ls w3 Any _ l) := hl3; clear hl3))
      unfold maxLen at hm3
      have HBB : Hid (Below w.heap.size w w3) := bl_tr (bl_tr (HB.out _) hb2) hb3
      clear hR hG HB
      go_ret
      exact ⟨rfl, HBB.out⟩
end Go.Proofs.Ytigliglmejkakaa
