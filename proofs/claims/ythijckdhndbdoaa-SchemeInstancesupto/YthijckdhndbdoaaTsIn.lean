/- upTo, Instance. -/
import Derived.Test.YthijckdhndbdoaaTsI
import Derived.Test.YthijckdhndbdoaaTsB
import Derived.Test.YthijckdhndbdoaaTpZ
namespace Go.Proofs.Ythijckdhndbdoaa
open Go.RowKit
set_option linter.unusedVariables false
set_option linter.unusedSimpArgs false

def nums (m : Nat) : List Int := (List.range m).map fun (j : Nat) => (j : Int)
theorem info_int12 : (Try.prog.info? 3).map (fun i => (i.zero, i.size, i.bytes)) = some (some (.int .i64 0), 1, 8) := by kernel_rfl
theorem made_ints (n : Nat) : ∃ M : Array Value, M.size = n ∧ ∀ (w : World), n ≤ 1048576 → (Instr.makeSlice 39 (.int .i64 (n : Int)) (.int .i64 (n : Int))).run Try.prog w = .ok (.slice (some ⟨w.heap.size, 0, none⟩) n n) (w.alloc (.cells M 3)) := by
  obtain ⟨i, hi, hz, hs, hb⟩ := info_parts0 info_int12
  refine ⟨madeCells (Value.int .i64 0).cells (n * 1), by rw [size_madeCells, Nat.mul_one], fun w hn => ?_⟩
  have h := run_make (P := Try.prog) w 39 3 i _ Try.underlying39 hi hz .i64 .i64 n n (by omega) (Int.le_refl _) (by rw [hb]; omega) (by omega)
  simp only [Int.toNat_natCast, hs] at h
  exact h
/-- Numbers that are laid one after the other. -/
structure Nl (w : World) (m k : Nat) (cur : List Value) (wr : World) : Prop where
  bl : Below w.heap.size w wr
  arr : Arr wr w.heap.size 3 cur
  len : cur.length = m
  done : ∀ i : Nat, i < k → cur[i]? = some (.int .i64 (i : Int))

set_option maxHeartbeats 1000000 in
set_option maxRecDepth 100000 in
theorem upTo_any (w : World) (m : Nat) (hm : m ≤ 1048576) : Calls Try.prog 38 #[.int .i64 (m : Int)] w fun e w' => ∃ p c, e = .returned (.slice p m c) ∧ Ls w' Any (.slice p m c) (nums m) ∧ Below w.heap.size w w' := by
  obtain ⟨M, hM, hmk⟩ := made_ints m
  have hmk2 : ∀ w, (Instr.makeSlice 39 (.int .i64 (m : Int)) (.int .i64 (m : Int))).run Try.prog w = .ok (.slice (some ⟨w.heap.size, 0, none⟩) m m) (w.alloc (.cells M 3)) := fun w => hmk w hm
  have HS : Hid (Nl w m 0 M.toList (w.alloc (.cells M 3))) := ⟨bl_alloc (Below.refl _ _) _, ⟨by rw [heap_alloc_at]⟩, by rw [Array.length_toList, hM], fun i hi => absurd hi (Nat.not_lt_zero _)⟩
  clear hmk hM
  go_enter Try.func38, Try.ntmps38
  go_wp2
  generalize w.alloc (.cells M 3) = w1 at HS
  go_loopw [9] (fun v wr => ∃ (k : Nat) (cur : List Value), v = .int .i64 k ∧ k ≤ m ∧ Hid (Nl w m k cur wr)) (fun v _ => m - (intOf v).toNat)
  case atStart => exact ⟨0, _, rfl, Nat.zero_le _, HS⟩
  case round =>
    obtain ⟨k, cur, rfl, hk, hR⟩ := hrel
    clear HS
    by_cases hlt : k < m
    · obtain ⟨u, hu⟩ : ∃ u, cur[k]? = some u := ⟨_, List.getElem?_eq_getElem (by rw [hR.out.len]; exact hlt)⟩
      have z0 := (hR.out.arr.cell k).trans hu
      have z1 := hR.out.arr.frozen
      have HN : Hid (Nl w m (k + 1) (cur.set k (.int .i64 (k : Int))) (wr.setCell ⟨w.heap.size, k, none⟩ (.int .i64 (k : Int)))) := by
        refine ⟨bl_set _ _ hR.out.bl (Nat.le_refl _), hR.out.arr.set k _, by rw [List.length_set]; exact hR.out.len, fun i hi => ?_⟩
        by_cases he : k = i
        · subst he; rw [List.getElem?_set_self (by rw [hR.out.len]; exact hlt)]
        · rw [List.getElem?_set_ne he]; exact hR.out.done i (by omega)
      clear hu
      go_wp2
      go_roundw
      case rel => exact ⟨k + 1, _, by go_num, by omega, HN⟩
      case measure => simp [intOf]; omega
    · obtain rfl : k = m := by omega
      go_wp2
      go_ret
      refine ⟨some ⟨w.heap.size, 0, none⟩, k, rfl, .inl ⟨w.heap.size, 0, k, by simp [nums], trivial, by simp [nums], by simp only [nums, List.length_map, List.length_range]; unfold maxLen; omega, fun j x hx => ?_⟩, hR.out.bl⟩
      unfold nums at hx
      rw [List.getElem?_map] at hx
      obtain ⟨i, hi, rfl⟩ := Option.map_eq_some_iff.1 hx
      obtain ⟨h1, h2⟩ := List.getElem?_eq_some_iff.1 hi
      rw [List.length_range] at h1
      rw [List.getElem_range] at h2
      subst h2
      rw [Nat.zero_add]
      exact (hR.out.arr.cell j).trans (hR.out.done j h1)
/-- What Instance answers. -/
def Tp.insta (g : Int) (t : Tp) (l : List Tp) : Tp × Int := if Tp.rightS g t = true ∧ (l.length : Int) = g then Tp.repl 8 (nums l.length) l t else (Tp.zero, 1)
theorem results_cell2 {fn : Func} {p a : Tmp} {ty : TypeId} (h : fn.results = #[.cell p ty, .tmp a]) (tmps : Array Value) (P : Program) (w : World) :
    (results fn tmps).run P w = ((asAddr (tmps.getD p undef)).run P w).andThen fun ad w₁ => ((loadVar ty ad).run P w₁).andThen fun v w₂ => .ok (.tuple #[v, tmps.getD a undef]) w₂ := by
  simp only [results, h]
  simp [Sem.run_bind, Result.andThen]

set_option maxHeartbeats 4000000 in
set_option maxRecDepth 100000 in
theorem Instance_any (w : World) (n N : Nat) (g : Int) (vs : List Value) (t : Tp) (lv : Value) (l : List Tp) (hT : TAt w Any n vs t) (hc : t.cnt ≤ 1048576) (hl : TAtL w Any N lv l) (hg : R64 g) : Calls Try.prog 10 #[.agg (.int .i64 g :: vs).toArray, lv] w (Repl w (Tp.insta g t l)) := by
  obtain ⟨a, c, rfl⟩ := hT.form
  obtain ⟨la, lc, rfl, hlm⟩ := hl.form
  unfold maxLen at hlm
  have HB2 : Hid (∀ o o', Below w.heap.size w ((w.alloc o).alloc o')) := fun o o' => bl_alloc (bl_alloc (Below.refl _ _) _) _
  have hRS : Hid (∀ wz, Below w.heap.size w wz → Calls Try.prog 24 #[.agg #[.int .i64 g, .int .i64 t.k, .int .i64 t.n, .slice a t.ks.length c]] wz fun e w' => e = .returned (.bool (Tp.rightS g t)) ∧ Below wz.heap.size wz w') := fun wz hz => RightScheme_any wz n g _ t (hT.below hz) hc
  have HA0 : Hid (∀ o, Arr ((w.alloc (.cells #[.int .i64 g, .int .i64 t.k, .int .i64 t.n, .slice a t.ks.length c] 26)).alloc o) w.heap.size 26 [.int .i64 g, .int .i64 t.k, .int .i64 t.n, .slice a t.ks.length c]) := fun o => Arr.stays ⟨heap_alloc_at _ _⟩ (bl_alloc (Below.refl _ _) _)
  have HA1 : Hid (∀ o, Arr ((w.alloc o).alloc (.cells #[.int .i64 0, .int .i64 0, .slice none 0 0] 24)) (w.heap.size + 1) 24 [.int .i64 0, .int .i64 0, .slice none 0 0]) := fun o => ⟨by have := heap_alloc_at (w.alloc o) (.cells #[.int .i64 0, .int .i64 0, .slice none 0 0] 24); rw [size_alloc] at this; exact this⟩
  have HSS : Hid (∀ (W : World) j u, Below w.heap.size w W → Below w.heap.size w (W.setCell ⟨w.heap.size + 1, j, none⟩ u)) := fun W j u h => bl_set _ _ h (by show _ ≤ w.heap.size + 1; omega)
  by_cases hr : Tp.rightS g t = true
  · by_cases hlg : (l.length : Int) = g
    · have he : Tp.insta g t l = Tp.repl 8 (nums l.length) l t := by unfold Tp.insta; rw [if_pos ⟨hr, hlg⟩]
      subst hlg
      have hll : l.length ≤ 1048576 := by have := rightS_g hr hc; omega
      rw [he]
      rw [hr] at hRS
      have hU : Hid (∀ wz, Calls Try.prog 38 #[.int .i64 (l.length : Int)] wz fun e w' => ∃ p c, e = .returned (.slice p l.length c) ∧ Ls w' Any (.slice p l.length c) (nums l.length) ∧ Below wz.heap.size wz w') := fun wz => upTo_any wz l.length hll
      have hRe : Hid (∀ wz fv, Below w.heap.size w wz → Ls wz Any fv (nums l.length) → Calls Try.prog 37 #[.agg #[.int .i64 t.k, .int .i64 t.n, .slice a t.ks.length c], .int .i64 8, fv, .slice la l.length lc] wz fun e w' => ∃ y q a n' c, Tp.repl 8 (nums l.length) l t = (y, q) ∧ e = .returned (.tuple #[.agg #[.int .i64 y.k, .int .i64 y.n, .slice a y.ks.length c], .int .i64 q]) ∧ TAt w' (fun b => wz.heap.size ≤ b) n' [.int .i64 y.k, .int .i64 y.n, .slice a y.ks.length c] y ∧ Below wz.heap.size wz w') := by
        intro wz fv hz hf
        refine (Replace_any wz n N _ t 8 fv _ _ l (hT.below hz) hf (hl.below hz)).mono ?_
        rintro e w' ⟨vs', n', rfl, h1, h2⟩
        obtain ⟨a', c', rfl⟩ := h1.form
        exact ⟨_, _, a', n', c', rfl, rfl, h1, h2⟩
      have hne : ((l.length : Int) != (l.length : Int)) = false := by simp
      clear hT hc hl he hr hll hlm
      generalize Tp.repl 8 (nums l.length) l t = rr at hRe ⊢
      go_enter Try.func10, Try.ntmps10
      go_wp2_with (go_at_call 24; refine (hRS.out _ (HB2.out _ _)).mono ?_; rintro e w3 ⟨rfl, hb3⟩; have HB3 := hid (bl_tr (HB2.out _ _) hb3); have H0 := hid ((HA0.out _).stays hb3); have H1 := hid ((HA1.out _).stays hb3); have q0 := H0.out.cell; clear hb3)
      clear HB2 HA0 HA1 hRS q0
      have hs0 : Hid ((∀ j : Nat, w3.drew.cell? ⟨w.heap.size, j, none⟩ = [.int .i64 (l.length : Int), .int .i64 t.k, .int .i64 t.n, .slice a t.ks.length c][j]?) ∧ SI w w.heap.size (w.heap.size + 1) 24 w3.drew) := ⟨H0.out.cell, ⟨_, _, _, H1.out.stays (Below.refl _ _).drew⟩, H0.out.lt, by omega, by omega, HB3.out.drew⟩
      have HLW : Hid (w.heap.size + 1 < w3.drew.heap.size) := H1.out.lt
      clear HB3 H0 H1
      go_region_held (fun w' => (∀ j : Nat, w'.cell? ⟨w.heap.size, j, none⟩ = [.int .i64 (l.length : Int), .int .i64 t.k, .int .i64 t.n, .slice a t.ks.length c][j]?) ∧ SI w w.heap.size (w.heap.size + 1) 24 w') (first | exact hs0.out | exact keepI (by assumption) (by assumption) | (with_reducible (refine keepS (keepS (keepS ?_)))); assumption) (first | (go_at_call 38; refine (hU.out _).mono ?_; rintro e wa ⟨pa, ca, rfl, hla, hba⟩; have HLA := hid hla; clear hla) | (go_at_call 37; refine (hRe.out _ _ (beloI (by assumption)) HLA.out).mono ?_; rintro e wb ⟨y, q, a8, n8, c8, hy8, rfl, hT8, hb8⟩; have HT8 := hid hT8; have HY8 := hid hy8; obtain ⟨u0, u1, u2, hA8⟩ := arrI (by assumption); have q8 := (hA8.stays hb8).cell; have q9 := (hA8.stays hb8).frozen; clear hA8 hT8 hy8))
      all_goals go_wp2
      all_goals refine bodyPost_ret (v := .tuple #[.agg #[.int .i64 y.k, .int .i64 y.n, .slice a8 y.ks.length c8], .int .i64 q]) (by rw [results_cell2 (fn := Try.f10) (p := 4) (a := 5) (ty := 24) (by kernel_rfl)]; simp [go_sem, q8, q9]) rfl ?_
      all_goals have hK : ∀ (W : World) j u, Keeps (fun b => w.heap.size + 1 < b) W (W.setCell ⟨w.heap.size + 1, j, none⟩ u) := fun W j u => Keeps.set (K := fun b => w.heap.size + 1 < b) (p := ⟨w.heap.size + 1, j, none⟩) (fun h => by simp at h) u
      all_goals have hlt : w.heap.size + 1 < wa.heap.size := Nat.lt_of_lt_of_le HLW.out hba.size
      all_goals rw [HY8.out]
      all_goals refine ⟨[_, _, _], n8, rfl, ?_, beloI (by assumption)⟩
      all_goals exact (HT8.out.move (K' := fun b => w.heap.size + 1 < b) (Keeps.refl _ _) (fun b hb => by omega)).move (((hK _ _ _).trans (hK _ _ _)).trans (hK _ _ _)) (fun b hb => by omega)
    · have he : Tp.insta g t l = (Tp.zero, 1) := by unfold Tp.insta; rw [if_neg (fun h => hlg h.2)]
      rw [he]
      rw [hr] at hRS
      have hne : ((l.length : Int) != g) = true := by simpa using hlg
      clear hT hc hl he hr hlg
      go_enter Try.func10, Try.ntmps10
      go_wp2_with (go_at_call 24; refine (hRS.out _ (HB2.out _ _)).mono ?_; rintro e w3 ⟨rfl, hb3⟩; have HB3 := hid hb3; have q0 := ((HA0.out _).stays hb3).cell; have q1 := ((HA1.out _).stays hb3).cell; have q2 := ((HA1.out _).stays hb3).frozen; clear hb3)
      refine bodyPost_ret (v := .tuple #[.agg #[.int .i64 0, .int .i64 0, .slice none 0 0], .int .i64 1]) (by rw [results_cell2 (fn := Try.f10) (p := 4) (a := 5) (ty := 24) (by kernel_rfl)]; simp [go_sem, q1, q2]) rfl ?_
      exact ⟨[_, _, _], 1, rfl, TAt.zero _ _, HSS.out _ _ _ (HSS.out _ _ _ (HSS.out _ _ _ (bl_tr (HB2.out _ _) HB3.out)))⟩
  · have he : Tp.insta g t l = (Tp.zero, 1) := by unfold Tp.insta; rw [if_neg (fun h => hr h.1)]
    have hr' : Tp.rightS g t = false := by simpa using hr
    rw [he]
    rw [hr'] at hRS
    clear hT hc hl he hr hr'
    go_enter Try.func10, Try.ntmps10
    go_wp2_with (go_at_call 24; refine (hRS.out _ (HB2.out _ _)).mono ?_; rintro e w3 ⟨rfl, hb3⟩; have HB3 := hid hb3; have q1 := ((HA1.out _).stays hb3).cell; have q2 := ((HA1.out _).stays hb3).frozen; clear hb3)
    refine bodyPost_ret (v := .tuple #[.agg #[.int .i64 0, .int .i64 0, .slice none 0 0], .int .i64 1]) (by rw [results_cell2 (fn := Try.f10) (p := 4) (a := 5) (ty := 24) (by kernel_rfl)]; simp [go_sem, q1, q2]) rfl ?_
    exact ⟨[_, _, _], 1, rfl, TAt.zero _ _, HSS.out _ _ _ (HSS.out _ _ _ (HSS.out _ _ _ (bl_tr (HB2.out _ _) HB3.out)))⟩
end Go.Proofs.Ythijckdhndbdoaa
