/- Generalise, Canonical. -/
import Derived.Test.YtknlpeloaapaiaaTsW
import Derived.Test.YtknlpeloaapaiaaTsP2
import Derived.Test.YtknlpeloaapaiaaTpPu
namespace Go.Proofs.Ytknlpeloaapaiaa
open Go.RowKit
set_option linter.unusedVariables false
set_option linter.unusedSimpArgs false

/-- What stands open: the metas that are not kept, then what was open. -/
def Tp.open_ (t : Tp) (keep : List Int) : List (Int × Int) := pls 7 ((Tp.found 7 t []).filter fun x => !decide (x ∈ keep)) ++ pls 8 (Tp.found 8 t [])
/-- While places are gathered: the type's box, the answer's, the map. -/
structure Gs (w : World) (T : TypeId) (bx : List Value) (L : List (Int × Int)) (W : World) : Prop where
  bl : Below w.heap.size w W
  box : Arr W w.heap.size T bx
  res : Arr W (w.heap.size + 1) 38 [.int .i64 0, .int .i64 0, .int .i64 0, .slice none 0 0]
  pl : Pls W (w.heap.size + 2) L
theorem Gs.base {w : World} {T : TypeId} {bx : List Value} {L : List (Int × Int)} {W W' : World} {B : Nat} (h : Gs w T bx L W) (hb : Below B W W') (hB : w.heap.size + 3 ≤ B) (hW : B ≤ W.heap.size) : Gs w T bx L W' := by
  have hb3 : Below (w.heap.size + 3) W W' := hb.mono hB
  refine ⟨h.bl.trans (hb3.mono (by omega)), ⟨by rw [hb3.block _ (by omega)]; exact h.box.b⟩, ⟨by rw [hb3.block _ (by omega)]; exact h.res.b⟩, ?_⟩
  obtain ⟨D, ⟨es, clock, h1, h2⟩, h3⟩ := h.pl
  exact ⟨D, ⟨es, clock, by rw [hb3.block _ (by omega)]; exact h1, h2⟩, h3⟩
theorem Gs.stays {w : World} {T : TypeId} {bx : List Value} {L : List (Int × Int)} {W W' : World} (h : Gs w T bx L W) (hb : Below W.heap.size W W') : Gs w T bx L W' := ⟨bl_tr h.bl hb, h.box.stays hb, h.res.stays hb, h.pl.stays hb⟩
theorem Gs.grown {w : World} {T : TypeId} {bx : List Value} {L L' : List (Int × Int)} {W W' : World} (h : Gs w T bx L W) (hg : W.grownBy W' (some (w.heap.size + 2))) (hp : Pls W' (w.heap.size + 2) L') : Gs w T bx L' W' := by
  refine ⟨?_, h.box.grown hg (fun e => by injection e with e; omega), h.res.grown hg (fun e => by injection e with e; omega), hp⟩
  obtain ⟨g1, g2, g3, g4, g5⟩ := hg
  have hlt := h.bl.size
  exact h.bl.trans ⟨g1, g2, g3, g4, fun j hj => g5 j (by omega) (fun e => by injection e with e; omega)⟩
theorem gs_new (w : World) (T : TypeId) (bx : Array Value) : Gs w T bx.toList [] (((w.alloc (.cells bx T)).alloc (.cells #[.int .i64 0, .int .i64 0, .int .i64 0, .slice none 0 0] 38)).alloc (.map #[] 0)) := by
  refine ⟨bl_alloc (bl_alloc (bl_alloc (Below.refl _ _) _) _) _, Arr.stays (Arr.stays ⟨heap_alloc_at _ _⟩ (bl_alloc (Below.refl _ _) _)) (bl_alloc (Below.refl _ _) _), Arr.stays ⟨?_⟩ (bl_alloc (Below.refl _ _) _), ?_⟩
  · have := heap_alloc_at (w.alloc (.cells bx T)) (.cells #[.int .i64 0, .int .i64 0, .int .i64 0, .slice none 0 0] 38)
    rw [size_alloc] at this; exact this
  · have := pls_new ((w.alloc (.cells bx T)).alloc (.cells #[.int .i64 0, .int .i64 0, .int .i64 0, .slice none 0 0] 38))
    rw [size_alloc, size_alloc] at this; exact this
theorem open_nodup (t : Tp) (keep : List Int) : (Tp.open_ t keep).Nodup := by
  unfold Tp.open_ pls
  rw [List.nodup_append]
  have hinj : ∀ (k : Int) (l : List Int), l.Nodup → (l.map fun n => (k, n)).Nodup := fun k l h => by
    rw [List.Nodup, List.pairwise_map]
    exact h.imp fun hne e => hne (Prod.mk.inj e).2
  refine ⟨hinj _ _ ((Tp.found_nodup 7 t).filter _), hinj _ _ (Tp.found_nodup 8 t), fun a ha b hb e => ?_⟩
  obtain ⟨x, -, rfl⟩ := List.mem_map.1 ha
  obtain ⟨y, -, rfl⟩ := List.mem_map.1 hb
  exact absurd (Prod.mk.inj e).1 (by decide)
theorem open_len (t : Tp) (keep : List Int) (hc : t.cnt ≤ 1048576) : (Tp.open_ t keep).length ≤ 2097152 := by
  unfold Tp.open_ pls
  rw [List.length_append, List.length_map, List.length_map]
  have h1 := Tp.found_len 7 t
  have h2 := Tp.found_len 8 t
  have h3 := List.length_filter_le (fun x => !decide (x ∈ keep)) (Tp.found 7 t [])
  omega
theorem r64_7 : R64 7 := ⟨by decide, by decide⟩
theorem r64_8 : R64 8 := ⟨by decide, by decide⟩

set_option maxHeartbeats 4000000 in
set_option maxRecDepth 100000 in
theorem Generalise_any (w : World) (n : Nat) (vs : List Value) (t : Tp) (kv : Value) (keep : List Int) (hT : TAt w Any n vs t) (hk : Ls w Any kv keep) (hk64 : ∀ x ∈ keep, R64 x) (hkl : keep.length ≤ 1048576) (hc : t.cnt ≤ 1048576) : Calls Try.prog 13 #[.agg vs.toArray, kv] w fun e w' => ∃ vs' n', e = .returned (.agg (.int .i64 ((Tp.open_ t keep).length : Nat) :: vs').toArray) ∧ TAt w' (fun b => w.heap.size ≤ b) n' vs' (Tp.ren (plf (Tp.open_ t keep)) t) ∧ Below w.heap.size w w' := by
  obtain ⟨a, c, rfl⟩ := hT.form
  obtain ⟨ak, ck, rfl, hm⟩ := hk.form
  have hl1 : ((Tp.found 7 t []).filter fun x => !decide (x ∈ keep)).length ≤ 1048576 := by have := Tp.found_len 7 t; have := List.length_filter_le (fun x => !decide (x ∈ keep)) (Tp.found 7 t []); omega
  have HM : Hid (∀ wz, Below w.heap.size w wz → w.heap.size + 3 ≤ wz.heap.size → Calls Try.prog 36 #[.agg #[.int .i64 t.k, .int .i64 t.n, .slice a t.ks.length c]] wz fun e w' => ∃ p c, e = .returned (.slice p (Tp.found 7 t []).length c) ∧ w'.ownsRow wz.heap.size 3 1 (.slice p (Tp.found 7 t []).length c) (Tp.found 7 t []).length ((Tp.found 7 t []).map (.int .i64)) ∧ Below wz.heap.size wz w') := fun wz hz _ => Metas_own wz n _ t (hT.below hz) hc
  have HW : Hid (∀ wz base p c, Below w.heap.size w wz → base ≤ wz.heap.size → wz.ownsRow base 3 1 (.slice p (Tp.found 7 t []).length c) (Tp.found 7 t []).length ((Tp.found 7 t []).map (.int .i64)) → Calls Try.prog 35 #[.slice p (Tp.found 7 t []).length c, .slice ak keep.length ck] wz fun e w' => ∃ v', e = .returned v' ∧ Ls w' Any v' ((Tp.found 7 t []).filter fun x => !decide (x ∈ keep)) ∧ Below base wz w') :=
    fun wz base p c hz hb ho => without_any wz base _ _ _ keep ho (hk.below hz) hb (hT.found64 7) hk64 (Nat.le_trans (Tp.found_len 7 t) hc) hkl
  have HA1 : Hid (∀ wz v', Ls wz Any v' ((Tp.found 7 t []).filter fun x => !decide (x ∈ keep)) → Pls wz (w.heap.size + 2) [] → Calls Try.prog 34 #[.map (some (w.heap.size + 2)), .int .i64 7, v'] wz fun e w' => e = .returned (.tuple #[]) ∧ Pls w' (w.heap.size + 2) (pls 7 ((Tp.found 7 t []).filter fun x => !decide (x ∈ keep))) ∧ wz.grownBy w' (some (w.heap.size + 2))) := by
    intro wz v' hl hp
    have hnd := open_nodup t keep
    unfold Tp.open_ at hnd
    exact (add_any wz _ [] 7 v' _ hp hl r64_7 (fun x hx => hT.found64 7 x (List.mem_filter.1 hx).1) (by rw [List.nil_append]; exact (List.nodup_append.1 hnd).1) (by rw [List.nil_append]; unfold pls; rw [List.length_map]; omega)).mono fun e w' h => by rw [List.nil_append] at h; exact h
  have HG : Hid (∀ wz, Below w.heap.size w wz → Calls Try.prog 15 #[.agg #[.int .i64 t.k, .int .i64 t.n, .slice a t.ks.length c]] wz fun e w' => ∃ v, e = .returned v ∧ Ls w' Any v (Tp.found 8 t []) ∧ Below wz.heap.size wz w') := fun wz hz => Gens_any wz n _ t (hT.below hz) hc
  have HA2 : Hid (∀ wz v', Ls wz Any v' (Tp.found 8 t []) → Pls wz (w.heap.size + 2) (pls 7 ((Tp.found 7 t []).filter fun x => !decide (x ∈ keep))) → Calls Try.prog 34 #[.map (some (w.heap.size + 2)), .int .i64 8, v'] wz fun e w' => e = .returned (.tuple #[]) ∧ Pls w' (w.heap.size + 2) (Tp.open_ t keep) ∧ wz.grownBy w' (some (w.heap.size + 2))) :=
    fun wz v' hl hp => add_any wz _ _ 8 v' _ hp hl r64_8 (hT.found64 8) (open_nodup t keep) (open_len t keep hc)
  have HS : Hid (∀ wz, Below w.heap.size w wz → Pls wz (w.heap.size + 2) (Tp.open_ t keep) → Calls Try.prog 37 #[.map (some (w.heap.size + 2)), .agg #[.int .i64 t.k, .int .i64 t.n, .slice a t.ks.length c]] wz fun e w' => ∃ y a n' c, Tp.ren (plf (Tp.open_ t keep)) t = y ∧ e = .returned (.agg #[.int .i64 ((Tp.open_ t keep).length : Nat), .int .i64 y.k, .int .i64 y.n, .slice a y.ks.length c]) ∧ TAt w' (fun b => wz.heap.size ≤ b) n' [.int .i64 y.k, .int .i64 y.n, .slice a y.ks.length c] y ∧ Below wz.heap.size wz w') := by
    intro wz hz hp
    refine (places_scheme wz _ _ n _ t hp (open_len t keep hc) (hT.below hz) hc).mono ?_
    rintro e w' ⟨vs', n', rfl, h1, h2⟩
    obtain ⟨a', c', rfl⟩ := h1.form
    exact ⟨_, a', n', c', rfl, rfl, h1, h2⟩
  have HN := hid (gs_new w 24 #[.int .i64 t.k, .int .i64 t.n, .slice a t.ks.length c])
  have hm0 := @run_makeMap Try.prog
  obtain ⟨m, hm1⟩ : ∃ m, (Tp.open_ t keep).length = m := ⟨_, rfl⟩
  rw [hm1] at HS ⊢
  generalize Tp.ren (plf (Tp.open_ t keep)) t = yy at HS ⊢
  generalize Tp.open_ t keep = L2 at HA2 HS
  generalize pls 7 ((Tp.found 7 t []).filter fun x => !decide (x ∈ keep)) = L1 at HA1 HA2
  generalize ((Tp.found 7 t []).filter fun x => !decide (x ∈ keep)) = l1 at HW HA1 hl1
  generalize Tp.found 7 t [] = l0 at HM HW
  generalize Tp.found 8 t [] = l2 at HG HA2
  clear hT hk hk64 hkl hc hm hm1 hl1
  go_enter Try.func13, Try.ntmps13
  go_wp2_with (first
    | (go_at_call 36; refine (HM.out _ HN.out.bl (by simp)).mono ?_; rintro e w3 ⟨p3, c3, rfl, ho3, hb3⟩; have HO3 := hid ho3; have HB3 := hid hb3; clear ho3 hb3)
    | (go_at_call 35; refine (HW.out _ _ _ _ (bl_tr HN.out.bl HB3.out) HB3.out.size HO3.out).mono ?_; rintro e w4 ⟨v4, rfl, hl4, hb4⟩; obtain ⟨p4, c4, rfl, -⟩ := hl4.form; have HG4 := hid ((HN.out.stays HB3.out).base hb4 (by simp) HB3.out.size); have HL4 := hid hl4; clear hl4 hb4)
    | (go_at_call 34; refine (HA1.out _ _ HL4.out HG4.out.pl).mono ?_; rintro e w5 ⟨rfl, hp5, hg5⟩; have HG5 := hid (HG4.out.grown hg5 hp5); have q5 := HG5.out.box.cell; clear hp5 hg5 HA1)
    | (go_at_call 15; refine (HG.out _ HG5.out.bl).mono ?_; rintro e w6 ⟨v6, rfl, hl6, hb6⟩; obtain ⟨p6, c6, rfl, -⟩ := hl6.form; have HG6 := hid (HG5.out.stays hb6); have HL6 := hid hl6; clear hl6 hb6)
    | (go_at_call 34; refine (HA2.out _ _ HL6.out HG6.out.pl).mono ?_; rintro e w7 ⟨rfl, hp7, hg7⟩; have HG7 := hid (HG6.out.grown hg7 hp7); have q7 := HG7.out.box.cell; clear hp7 hg7)
    | (go_at_call 37; refine (HS.out _ HG7.out.bl HG7.out.pl).mono ?_; rintro e w8 ⟨y, a8, n8, c8, hy8, rfl, hT8, hb8⟩; have HG8 := hid (HG7.out.stays hb8); have HT8 := hid hT8; have HY8 := hid hy8; have HB8 := hid HG7.out.bl.size; have q8 := HG8.out.res.cell; have q9 := HG8.out.res.frozen; clear hT8 hb8 hy8))
  refine bodyPost_ret (v := .agg #[.int .i64 (m : Nat), .int .i64 y.k, .int .i64 y.n, .slice a8 y.ks.length c8]) (by rw [results_cell1 (fn := Try.f13) (p := 4) (ty := 38) (by kernel_rfl)]; simp [go_sem, q8, q9]) rfl ?_
  have hK : ∀ (W : World) j u, Keeps (fun b => w.heap.size + 2 < b) W (W.setCell ⟨w.heap.size + 1, j, none⟩ u) := fun W j u => Keeps.set (K := fun b => w.heap.size + 2 < b) (p := ⟨w.heap.size + 1, j, none⟩) (fun h => by simp at h) u
  have hs : ∀ (W : World) j u, Below w.heap.size w W → Below w.heap.size w (W.setCell ⟨w.heap.size + 1, j, none⟩ u) := fun W j u h => bl_set _ _ h (by show _ ≤ w.heap.size + 1; omega)
  have hlt := HG7.out.pl.lt
  refine ⟨[_, _, _], n8, rfl, ?_, hs _ _ _ (hs _ _ _ (hs _ _ _ (hs _ _ _ HG8.out.bl)))⟩
  rw [HY8.out]
  exact (HT8.out.move (K' := fun b => w.heap.size + 2 < b) (Keeps.refl _ _) (fun b hb => by omega)).move ((((hK _ _ _).trans (hK _ _ _)).trans (hK _ _ _)).trans (hK _ _ _)) (fun b hb => by omega)
end Go.Proofs.Ytknlpeloaapaiaa
