/- SchemeMatches: the walk. -/
import Derived.Test.YthijckdhndbdoaaTsFm
import Derived.Test.YthijckdhndbdoaaTsO
import Derived.Test.YthijckdhndbdoaaTsA
namespace Go.Proofs.Ythijckdhndbdoaa
open Go.RowKit
set_option linter.unusedVariables false
set_option linter.unusedSimpArgs false

/-- There is one list that a Match may answer with. -/
theorem mat_list (ga gb : Int) (a b : Tp) : ∃ (l : List Tp) (r : Bool), (r = true ↔ MatOk ga gb a b) ∧ ∀ e w', MatAns0 ga gb a b e w' → (∃ p c N, e = .returned (.tuple #[.slice p l.length c, .bool r]) ∧ TAtL w' Any N (.slice p l.length c) l) := by
  by_cases ok : MatOk ga gb a b
  · obtain ⟨τ, hτ⟩ := ok.2.2
    have hl : Tp.inst (fun i => ((List.range ga.toNat).map fun (i : Nat) => τ i).getD i.toNat (.mk 0 0 [])) a = b := by
      rw [← hτ]
      refine Tp.inst_congr _ _ a fun n hn => ?_
      have hq := (rightS_all ok.1 n).1 hn
      have h2 : n.toNat < ga.toNat := by omega
      simp only [List.getD_eq_getElem?_getD, List.getElem?_map, List.getElem?_range h2, Option.map_some, Option.getD_some]
      rw [Int.toNat_of_nonneg hq.1]
    by_cases hg : 0 ≤ ga
    · refine ⟨(List.range ga.toNat).map fun (i : Nat) => τ i, true, ⟨fun _ => ok, fun _ => rfl⟩, fun e w' h => ?_⟩
      · rcases h with ⟨h1, p, c, l, N, h2, h3, h4, h5⟩ | h
        · have he := mat_one ok.1 h4 (m := (List.range ga.toNat).map fun (i : Nat) => τ i) (by simp; omega) h5 hl
          subst he
          exact ⟨p, c, N, h2, h3⟩
        · exact absurd ok h.1
    · refine ⟨[], true, ⟨fun _ => ok, fun _ => rfl⟩, fun e w' h => ?_⟩
      rcases h with ⟨h1, p, c, l, N, h2, h3, h4, h5⟩ | h
      · omega
      · exact absurd ok h.1
  · refine ⟨[], false, ⟨(fun h => by cases h), fun h => absurd h ok⟩, fun e w' h => ?_⟩
    rcases h with h | h
    · exact absurd h.1 ok
    · exact ⟨none, 0, 0, h.2, .inr ⟨rfl, none, 0, rfl⟩⟩
theorem stM {P : World → Prop} {W : World} {b1 b2 : Nat} {c1 c2 : List Value} (h : (∀ j : Nat, W.cell? ⟨b1, j, none⟩ = c1[j]?) ∧ (∀ j : Nat, W.cell? ⟨b2, j, none⟩ = c2[j]?) ∧ St P W) : St P W := h.2.2
theorem St.addTL {P : World → Prop} {W : World} {n : Nat} {v : Value} {l : List Tp} (h : St P W) (q : TAtL W Any n v l) : St (fun W => P W ∧ TAtL W Any n v l) W := h.add q fun _ _ h hb => h.below hb

set_option maxHeartbeats 8000000 in
set_option maxRecDepth 100000 in
theorem matches_walk (w : World) (na nb : Nat) (ga gb : Int) (va vb : List Value) (a b : Tp) (ha : TAt w Any na va a) (hb : TAt w Any nb vb b) (hca : a.cnt ≤ 1048576) (hcb : b.cnt ≤ 1048576) :
    Calls Try.prog 4 #[.agg (.int .i64 ga :: va).toArray, .agg (.int .i64 gb :: vb).toArray] w fun e w' => e = .returned (.bool true) ∧ Below w.heap.size w w' := by
  obtain ⟨a1, c1, rfl⟩ := ha.form
  obtain ⟨b1, d1, rfl⟩ := hb.form
  obtain ⟨l, r, hr, hml⟩ := mat_list ga gb a b
  obtain ⟨r2, hr2⟩ : ∃ r2 : Bool, r2 = true ↔ MatOk gb ga b a := by
    by_cases ok : MatOk gb ga b a
    · exact ⟨true, ⟨fun _ => ok, fun _ => rfl⟩⟩
    · exact ⟨false, ⟨(fun h => by cases h), fun h => absurd h ok⟩⟩
  have hM1 : Hid (∀ wz, Below w.heap.size w wz → Calls Try.prog 14 #[.agg #[.int .i64 ga, .int .i64 a.k, .int .i64 a.n, .slice a1 a.ks.length c1], .agg #[.int .i64 gb, .int .i64 b.k, .int .i64 b.n, .slice b1 b.ks.length d1]] wz fun e w' => (∃ p c N, e = .returned (.tuple #[.slice p l.length c, .bool r]) ∧ TAtL w' Any N (.slice p l.length c) l) ∧ Below wz.heap.size wz w') := fun wz hz => (Match_any wz na nb ga gb _ _ a b (ha.below hz) (hb.below hz) hca hcb).mono fun e w' ⟨h1, h2⟩ => ⟨hml e w' h1.zero, h2⟩
  have hM2 : Hid (∀ wz, Below w.heap.size w wz → Calls Try.prog 15 #[.agg #[.int .i64 ga, .int .i64 a.k, .int .i64 a.n, .slice a1 a.ks.length c1], .agg #[.int .i64 gb, .int .i64 b.k, .int .i64 b.n, .slice b1 b.ks.length d1]] wz fun e w' => (∃ p c N, e = .returned (.tuple #[.slice p l.length c, .bool r]) ∧ TAtL w' Any N (.slice p l.length c) l) ∧ Below wz.heap.size wz w') := fun wz hz => (refMatch_any wz na nb ga gb _ _ a b (ha.below hz) (hb.below hz) hca hcb).mono fun e w' ⟨h1, h2⟩ => ⟨hml e w' h1, h2⟩
  have hL1 : Hid (∀ wz, Below w.heap.size w wz → Calls Try.prog 17 #[.agg #[.int .i64 ga, .int .i64 a.k, .int .i64 a.n, .slice a1 a.ks.length c1], .agg #[.int .i64 gb, .int .i64 b.k, .int .i64 b.n, .slice b1 b.ks.length d1]] wz fun e w' => e = .returned (.bool r) ∧ Below wz.heap.size wz w') := fun wz hz => AtLeast_any wz na nb ga gb _ _ a b (ha.below hz) (hb.below hz) hca hcb r hr
  have hL2 : Hid (∀ wz, Below w.heap.size w wz → Calls Try.prog 18 #[.agg #[.int .i64 ga, .int .i64 a.k, .int .i64 a.n, .slice a1 a.ks.length c1], .agg #[.int .i64 gb, .int .i64 b.k, .int .i64 b.n, .slice b1 b.ks.length d1]] wz fun e w' => e = .returned (.bool r) ∧ Below wz.heap.size wz w') := fun wz hz => refAtLeast_any wz na nb ga gb _ _ a b (ha.below hz) (hb.below hz) hca hcb r hr
  have hK1 : Hid (∀ wz, Below w.heap.size w wz → Calls Try.prog 19 #[.agg #[.int .i64 ga, .int .i64 a.k, .int .i64 a.n, .slice a1 a.ks.length c1], .agg #[.int .i64 gb, .int .i64 b.k, .int .i64 b.n, .slice b1 b.ks.length d1]] wz fun e w' => e = .returned (.bool (r && r2)) ∧ Below wz.heap.size wz w') := fun wz hz => Alike_any wz na nb ga gb _ _ a b (ha.below hz) (hb.below hz) hca hcb r r2 hr hr2
  have hK2 : Hid (∀ wz, Below w.heap.size w wz → Calls Try.prog 20 #[.agg #[.int .i64 ga, .int .i64 a.k, .int .i64 a.n, .slice a1 a.ks.length c1], .agg #[.int .i64 gb, .int .i64 b.k, .int .i64 b.n, .slice b1 b.ks.length d1]] wz fun e w' => e = .returned (.bool (r && r2)) ∧ Below wz.heap.size wz w') := fun wz hz => refAlike_any wz na nb ga gb _ _ a b (ha.below hz) (hb.below hz) hca hcb r r2 hr hr2
  have hAl : Hid (∀ wz, Calls Try.prog 13 #[] wz fun e w' => e = .returned (.bool true) ∧ Below wz.heap.size wz w') := fun wz => alive12 wz
  have HBB : Hid (∀ o o', Below w.heap.size w ((w.alloc o).alloc o')) := fun o o' => bl_alloc (bl_alloc (Below.refl _ _) _) _
  have HA0 : Hid (∀ o, Arr ((w.alloc (.cells #[.int .i64 ga, .int .i64 a.k, .int .i64 a.n, .slice a1 a.ks.length c1] 26)).alloc o) w.heap.size 26 [.int .i64 ga, .int .i64 a.k, .int .i64 a.n, .slice a1 a.ks.length c1]) := fun o => Arr.stays ⟨heap_alloc_at _ _⟩ (bl_alloc (Below.refl _ _) _)
  have HA1 : Hid (∀ o, Arr ((w.alloc o).alloc (.cells #[.int .i64 gb, .int .i64 b.k, .int .i64 b.n, .slice b1 b.ks.length d1] 26)) (w.heap.size + 1) 26 [.int .i64 gb, .int .i64 b.k, .int .i64 b.n, .slice b1 b.ks.length d1]) := fun o => ⟨by have := heap_alloc_at (w.alloc o) (.cells #[.int .i64 gb, .int .i64 b.k, .int .i64 b.n, .slice b1 b.ks.length d1] 26); rw [size_alloc] at this; exact this⟩
  have hrr : (r == r) = true := by simp
  generalize (r && r2) = q at hK1 hK2
  have hqq : (q == q) = true := by simp
  clear ha hb hml hr hr2 hca hcb
  go_enter Try.func4, Try.ntmps4
  go_wp2_with (first | (go_at_call 14; refine (hM1.out _ (HBB.out _ _)).mono ?_; rintro e w3 ⟨⟨p3, c3, N3, rfl, hT3⟩, hb3⟩; have HB3 := hid (bl_tr (HBB.out _ _) hb3); have HQ0 := hid ((HA0.out _).stays hb3); have HQ1 := hid ((HA1.out _).stays hb3); have q0 := HQ0.out.cell; have q1 := HQ1.out.cell; have HT3 := hid hT3; clear hb3 hT3) | (go_at_call 15; refine (hM2.out _ HB3.out).mono ?_; rintro e w4 ⟨⟨p4, c4, N4, rfl, hT4⟩, hb4⟩; have HB4 := hid (bl_tr HB3.out hb4); have HR0 := hid (HQ0.out.stays hb4); have HR1 := hid (HQ1.out.stays hb4); have HT3 := hid (HT3.out.below hb4); have HT4 := hid hT4; clear hb4 q0 q1 HQ0 HQ1 HB3 hT4))
  have Z := hid ((((((St.mk (P := fun W => Below w.heap.size w W) HB4.out (fun _ _ h hb => bl_tr h hb)).addA HR0.out).addA HR1.out).addTL HT3.out).addTL HT4.out))
  obtain ⟨P, ZP, k1, k2, qS, qB⟩ : ∃ (P : World → Prop), Hid (St P w4) ∧ Hid (∀ W, P W → ∀ j : Nat, W.cell? ⟨w.heap.size, j, none⟩ = [.int .i64 ga, .int .i64 a.k, .int .i64 a.n, .slice a1 a.ks.length c1][j]?) ∧ Hid (∀ W, P W → ∀ j : Nat, W.cell? ⟨w.heap.size + 1, j, none⟩ = [.int .i64 gb, .int .i64 b.k, .int .i64 b.n, .slice b1 b.ks.length d1][j]?) ∧ Hid (∀ W, P W → TAtL W Any N3 (.slice p3 l.length c3) l ∧ TAtL W Any N4 (.slice p4 l.length c4) l) ∧ Hid (∀ W, P W → Below w.heap.size w W) :=
    ⟨_, Z, fun W h => h.1.1.1.2.cell, fun W h => h.1.1.2.cell, fun W h => ⟨h.1.2, h.2⟩, fun W h => h.1.1.1.1⟩
  have hSA : Hid (∀ wz, P wz → Calls Try.prog 16 #[.slice p3 l.length c3, .slice p4 l.length c4] wz fun e w' => e = .returned (.bool true) ∧ Below wz.heap.size wz w') := fun wz hz => sameAll_any wz N3 N4 _ _ l (qS.out wz hz).1 (qS.out wz hz).2
  have mkS : Hid (∀ wz, St P wz → (∀ j : Nat, wz.cell? ⟨w.heap.size, j, none⟩ = [.int .i64 ga, .int .i64 a.k, .int .i64 a.n, .slice a1 a.ks.length c1][j]?) ∧ (∀ j : Nat, wz.cell? ⟨w.heap.size + 1, j, none⟩ = [.int .i64 gb, .int .i64 b.k, .int .i64 b.n, .slice b1 b.ks.length d1][j]?) ∧ St P wz) := fun wz h => ⟨k1.out wz h.here, k2.out wz h.here, h⟩
  have hs0 := hid (mkS.out _ (ZP.out.stays (Below.refl _ _).drew))
  clear Z HA0 HA1 HR0 HR1 HB4 HT3 HT4 HBB hM1 hM2 qS
  go_region_held (fun w' => (∀ j : Nat, w'.cell? ⟨w.heap.size, j, none⟩ = [.int .i64 ga, .int .i64 a.k, .int .i64 a.n, .slice a1 a.ks.length c1][j]?) ∧ (∀ j : Nat, w'.cell? ⟨w.heap.size + 1, j, none⟩ = [.int .i64 gb, .int .i64 b.k, .int .i64 b.n, .slice b1 b.ks.length d1][j]?) ∧ St P w') (first | exact hs0.out | exact mkS.out _ ((stM (by assumption)).stays (by assumption))) (first
    | (go_at_call 16; refine (hSA.out _ (stM (by assumption)).here).mono ?_; rintro e w5 ⟨rfl, b5⟩)
    | (go_at_call 17; refine (hL1.out _ (qB.out _ (stM (by assumption)).here)).mono ?_; rintro e w6 ⟨rfl, b6⟩)
    | (go_at_call 18; refine (hL2.out _ (qB.out _ (stM (by assumption)).here)).mono ?_; rintro e w7 ⟨rfl, b7⟩)
    | (go_at_call 19; refine (hK1.out _ (qB.out _ (stM (by assumption)).here)).mono ?_; rintro e w8 ⟨rfl, b8⟩)
    | (go_at_call 20; refine (hK2.out _ (qB.out _ (stM (by assumption)).here)).mono ?_; rintro e w9 ⟨rfl, b9⟩)
    | (go_at_call 13; refine (hAl.out _).mono ?_; rintro e wa ⟨rfl, ba⟩))
  have HE := hid (qB.out _ (stM (by assumption)).here)
  go_wp2
  go_ret
  exact ⟨rfl, HE.out⟩
end Go.Proofs.Ythijckdhndbdoaa
