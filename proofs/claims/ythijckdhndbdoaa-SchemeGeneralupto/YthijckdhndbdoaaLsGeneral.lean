/- SchemeGeneral: the cases joined. -/
import Derived.Test.YthijckdhndbdoaaTpC
import Derived.Test.YthijckdhndbdoaaLsGenA
import Derived.Test.YthijckdhndbdoaaLsGenC3
import Derived.Test.YthijckdhndbdoaaLsGenC4
namespace Go.Proofs.Ythijckdhndbdoaa
open Go.RowKit
set_option linter.unusedVariables false
set_option linter.unusedSimpArgs false

theorem Mono_any (w : World) (x : Tp) (a6 : Option Addr) (c6 : Nat) : Calls Try.prog 25 #[.agg #[.int .i64 x.k, .int .i64 x.n, .slice a6 x.ks.length c6]] w fun e w' => e = .returned (.agg #[.int .i64 0, .int .i64 x.k, .int .i64 x.n, .slice a6 x.ks.length c6]) ∧ Below w.heap.size w w' := by
  go_enter Try.func25, Try.ntmps25
  go_wp2
  refine bodyPost_ret (v := .agg #[.int .i64 0, .int .i64 x.k, .int .i64 x.n, .slice a6 x.ks.length c6]) (by rw [results_cell1 (fn := Try.f25) (p := 2) (ty := 26) (by kernel_rfl)]; simp [go_sem]) rfl ?_
  exact ⟨rfl, by repeat' (first | exact Below.refl _ _ | with_reducible refine bl_alloc ?_ _ | with_reducible refine bl_set _ _ ?_ ?_ | (simp; done))⟩
set_option maxRecDepth 100000 in
theorem size12 (w : World) (n : Nat) (vs : List Value) (t : Tp) (hT : TAt w Any n vs t) : Calls Try.prog 55 #[.agg vs.toArray] w fun e w' => e = .returned (.tuple #[.int .i64 (Tp.upto t.cnt).1, .bool (Tp.upto t.cnt).2]) ∧ Below w.heap.size w w' := by
  have hq : Hid (∀ o, Calls Try.prog 51 #[.agg vs.toArray, .func (.func 72) #[.pointer (some ⟨w.heap.size + 1, 0, none⟩)] #[]] ((w.alloc o).alloc (.cells #[.int .i64 0] 79)) fun e w' => e = .returned (.bool (Tp.upto t.cnt).2) ∧ w'.cell? ⟨w.heap.size + 1, 0, none⟩ = some (.int .i64 (Tp.upto t.cnt).1) ∧ Below w.heap.size w w') := by
    intro o
    have hb : Below w.heap.size w ((w.alloc o).alloc (.cells #[.int .i64 0] 79)) := bl_alloc (bl_alloc (Below.refl _ _) _) _
    have hT1 : TAt ((w.alloc o).alloc (.cells #[.int .i64 0] 79)) (fun b => b ≠ w.heap.size + 1) n vs t := (TAt.old hT).move (Keeps.of_below hb) fun b h => by omega
    have hM : Mtr (w.heap.size + 1) [] 79 0 ((w.alloc o).alloc (.cells #[.int .i64 0] 79)) := ⟨by have := heap_alloc_at (w.alloc o) (.cells #[.int .i64 0] 79); rwa [size_alloc] at this⟩
    refine (walk_count (w.heap.size + 1) [] 79 0 _ n vs t hM (by decide) (by decide) hT1).mono ?_
    rintro e w' ⟨rfl, h1, h2⟩
    rw [Int.zero_add] at h1 ⊢
    exact ⟨rfl, h1.cell, hb.trans (h2.below (by rw [size_alloc, size_alloc]; omega) (fun b hb => by rw [hb]; omega))⟩
  obtain ⟨a, c, rfl⟩ := hT.form
  clear hT
  generalize Tp.upto t.cnt = q at hq
  obtain ⟨q1, q2⟩ := q
  simp only at hq
  go_enter Try.func55, Try.ntmps55
  go_wp2_with (go_at_call 51; refine (hq.out _).mono ?_; rintro e w2 ⟨rfl, hc, hb2⟩)
  go_ret2
  exact ⟨rfl, hb2⟩
set_option maxRecDepth 100000 in
theorem Fits12 (w : World) (n : Nat) (vs : List Value) (t : Tp) (hT : TAt w Any n vs t) : Calls Try.prog 27 #[.agg vs.toArray] w fun e w' => e = .returned (.bool (Tp.upto t.cnt).2) ∧ Below w.heap.size w w' := by
  have hq : Hid (∀ o, Calls Try.prog 55 #[.agg vs.toArray] (w.alloc o) fun e w' => e = .returned (.tuple #[.int .i64 (Tp.upto t.cnt).1, .bool (Tp.upto t.cnt).2]) ∧ Below (w.alloc o).heap.size (w.alloc o) w') := fun o => size12 (w.alloc o) n vs t (hT.below (bl_alloc (Below.refl _ _) _))
  obtain ⟨a, c, rfl⟩ := hT.form
  clear hT
  go_enter Try.func27, Try.ntmps27
  go_wp2_with (go_at_call 55; refine (hq.out _).mono ?_; rintro e w2 ⟨rfl, hb2⟩)
  go_ret
  exact ⟨rfl, bl_tr (bl_alloc (Below.refl _ _) _) hb2⟩
theorem all_nil_of_found {k : Int} {t : Tp} (h : (Tp.found k t []).length = 0) : Tp.all k t = [] := by
  cases hl : Tp.all k t with
  | nil => rfl
  | cons x r =>
    have hm : x ∈ Tp.found k t [] := Tp.mem_fnd.2 (by rw [hl]; simp)
    rw [List.eq_nil_of_length_eq_zero h] at hm
    cases hm
theorem mat_list {g : Nat} {a b : Tp} {τ : Int → Tp} (hr : Tp.rightS g a = true) (hτ : Tp.inst τ a = b) {l : List Tp} (hl : l.length = g) (hi : Tp.inst (fun i => l.getD i.toNat (.mk 0 0 [])) a = b) : l = (List.range g).map fun (i : Nat) => τ i := by
  apply List.ext_getElem
  · rw [List.length_map, List.length_range, hl]
  · intro i h1 h2
    have := Tp.inst_inj _ _ a (rightS_right hr) (hi.trans hτ.symm) i ((rightS_all hr i).2 ⟨by omega, by omega⟩)
    simp only [Int.toNat_natCast, List.getD_eq_getElem?_getD, List.getElem?_eq_getElem h1, Option.getD_some] at this
    rw [this, List.getElem_map, List.getElem_range]

set_option maxHeartbeats 1000000 in
theorem general_walk (w : World) (nt nl na nb : Nat) (ga gb : Int) (vt va vb : List Value) (kv lv : Value) (t a b : Tp) (keep : List Int) (l : List Tp) (ht : TAt w Any nt vt t) (hk : Ls w Any kv keep) (hl : TAtL w Any nl lv l) (ha : TAt w Any na va a) (hb : TAt w Any nb vb b) (hk64 : ∀ x ∈ keep, R64 x) (hkl : keep.length ≤ 1048576) (hct : t.cnt ≤ 1048576) (hcl : Tp.cntL l ≤ 1048576) (hca : a.cnt ≤ 1048576) (hcb : b.cnt ≤ 1048576) (hga : R64 ga) :
    Calls Try.prog 5 #[.agg vt.toArray, kv, lv, .agg (.int .i64 ga :: va).toArray, .agg (.int .i64 gb :: vb).toArray] w fun e w' => e = .returned (.bool true) ∧ Below w.heap.size w w' := by
  obtain ⟨t1, t2, rfl⟩ := ht.form
  obtain ⟨a1, a2, rfl⟩ := ha.form
  obtain ⟨b1, b2, rfl⟩ := hb.form
  obtain ⟨kp, kc, rfl, -⟩ := hk.form
  obtain ⟨lp, lc, rfl, -⟩ := hl.form
  obtain ⟨m, hm⟩ : ∃ m, (Tp.open_ t keep).length = m := ⟨_, rfl⟩
  obtain ⟨y, hy⟩ : ∃ y, Tp.ren (plf (Tp.open_ t keep)) t = y := ⟨_, rfl⟩
  have hcy : y.cnt ≤ 1048576 := by rw [← hy, Tp.cnt_ren]; exact hct
  have hml : m ≤ 2097152 := by rw [← hm]; exact open_len t keep hct
  have hm64 : R64 (m : Int) := ⟨by omega, by omega⟩
  have hlm : l.length ≤ 1048576 := Nat.le_trans (Tp.cntL_len l) hcl
  have hLive : Hid (∀ wz, Calls Try.prog 13 #[] wz fun e w' => e = .returned (.bool true) ∧ Below wz.heap.size wz w') := fun wz => alive12 wz
  have hGe : Hid (∀ wz, Below w.heap.size w wz → Calls Try.prog 21 #[.agg #[.int .i64 t.k, .int .i64 t.n, .slice t1 t.ks.length t2], .slice kp keep.length kc] wz fun e w' => ∃ a5 n5 c5, e = .returned (.agg #[.int .i64 (m : Nat), .int .i64 y.k, .int .i64 y.n, .slice a5 y.ks.length c5]) ∧ TAt w' Any n5 [.int .i64 y.k, .int .i64 y.n, .slice a5 y.ks.length c5] y ∧ Below wz.heap.size wz w') := by
    intro wz hz
    refine (Generalise_any wz nt _ t _ keep (ht.below hz) (hk.below hz) hk64 hkl hct).mono ?_
    rintro e w' ⟨vs', n', rfl, h1, h2⟩
    rw [hy] at h1
    obtain ⟨a', c', rfl⟩ := h1.form
    exact ⟨a', n', c', by rw [hm], h1.any, h2⟩
  have part2 : (Hid (∀ wz, Below w.heap.size w wz → Calls Try.prog 14 #[.agg #[.int .i64 ga, .int .i64 a.k, .int .i64 a.n, .slice a1 a.ks.length a2], .agg #[.int .i64 gb, .int .i64 b.k, .int .i64 b.n, .slice b1 b.ks.length b2]] wz fun e w' => e = .returned (.tuple #[.slice none 0 0, .bool false]) ∧ Below wz.heap.size wz w')) ∨ (∃ ml : List Tp, (Hid (∀ wz, Below w.heap.size w wz → Calls Try.prog 14 #[.agg #[.int .i64 ga, .int .i64 a.k, .int .i64 a.n, .slice a1 a.ks.length a2], .agg #[.int .i64 gb, .int .i64 b.k, .int .i64 b.n, .slice b1 b.ks.length b2]] wz fun e w' => ∃ p c N, e = .returned (.tuple #[.slice p ml.length c, .bool true]) ∧ TAtL w' Any N (.slice p ml.length c) ml ∧ Below wz.heap.size wz w')) ∧ (Hid (∀ wz p c N, Below w.heap.size w wz → TAtL wz Any N (.slice p ml.length c) ml → Calls Try.prog 10 #[.agg #[.int .i64 ga, .int .i64 a.k, .int .i64 a.n, .slice a1 a.ks.length a2], .slice p ml.length c] wz fun e w' => ∃ a9 n9 c9, e = .returned (.tuple #[.agg #[.int .i64 b.k, .int .i64 b.n, .slice a9 b.ks.length c9], .int .i64 0]) ∧ TAt w' Any n9 [.int .i64 b.k, .int .i64 b.n, .slice a9 b.ks.length c9] b ∧ Below wz.heap.size wz w')) ∧ (Hid (∀ wz a9 n9 c9, Below w.heap.size w wz → TAt wz Any n9 [.int .i64 b.k, .int .i64 b.n, .slice a9 b.ks.length c9] b → Calls Try.prog 26 #[.agg #[.int .i64 b.k, .int .i64 b.n, .slice a9 b.ks.length c9], .agg #[.int .i64 b.k, .int .i64 b.n, .slice b1 b.ks.length b2]] wz fun e w' => e = .returned (.bool true) ∧ Below wz.heap.size wz w'))) ∨ (∃ ml : List Tp, (Hid (∀ wz, Below w.heap.size w wz → Calls Try.prog 14 #[.agg #[.int .i64 ga, .int .i64 a.k, .int .i64 a.n, .slice a1 a.ks.length a2], .agg #[.int .i64 gb, .int .i64 b.k, .int .i64 b.n, .slice b1 b.ks.length b2]] wz fun e w' => ∃ p c N, e = .returned (.tuple #[.slice p ml.length c, .bool true]) ∧ TAtL w' Any N (.slice p ml.length c) ml ∧ Below wz.heap.size wz w')) ∧ (Hid (∀ wz p c N, Below w.heap.size w wz → TAtL wz Any N (.slice p ml.length c) ml → Calls Try.prog 10 #[.agg #[.int .i64 ga, .int .i64 a.k, .int .i64 a.n, .slice a1 a.ks.length a2], .slice p ml.length c] wz fun e w' => ∃ (a9 : Option Addr) (c9 : Nat), e = .returned (.tuple #[.agg #[.int .i64 0, .int .i64 0, .slice a9 0 c9], .int .i64 3]) ∧ Below wz.heap.size wz w')) ∧ (Hid (∀ wz, Below w.heap.size w wz → Calls Try.prog 27 #[.agg #[.int .i64 b.k, .int .i64 b.n, .slice b1 b.ks.length b2]] wz fun e w' => e = .returned (.bool false) ∧ Below wz.heap.size wz w'))) := by
    by_cases hM : MatOk ga gb a b
    · obtain ⟨hra, hrb, τ, hτ⟩ := id hM
      obtain ⟨g, rfl⟩ : ∃ g : Nat, ga = g := ⟨ga.toNat, by have := rightS_g hra hca; omega⟩
      have hgl : ((List.range g).map fun (i : Nat) => τ i).length = g := by simp
      have hMa : ∀ wz, Below w.heap.size w wz → Calls Try.prog 14 #[.agg #[.int .i64 (g : Int), .int .i64 a.k, .int .i64 a.n, .slice a1 a.ks.length a2], .agg #[.int .i64 gb, .int .i64 b.k, .int .i64 b.n, .slice b1 b.ks.length b2]] wz fun e w' => ∃ p c N, e = .returned (.tuple #[.slice p ((List.range g).map fun (i : Nat) => τ i).length c, .bool true]) ∧ TAtL w' Any N (.slice p ((List.range g).map fun (i : Nat) => τ i).length c) ((List.range g).map fun (i : Nat) => τ i) ∧ Below wz.heap.size wz w' := by
        intro wz hz
        refine (Match_any wz na nb g gb _ _ a b (ha.below hz) (hb.below hz) hca hcb).mono ?_
        rintro e w' ⟨h | h, h2⟩
        · obtain ⟨-, p, c, l', N, rfl, hl', hlen, hi⟩ := h
          have := mat_list hra hτ (by omega) hi
          subst this
          exact ⟨p, c, N, rfl, hl'.any, h2⟩
        · exact absurd hM h.1
      have hin : Tp.inst (fun i => ((List.range g).map fun (i : Nat) => τ i).getD i.toNat (.mk 0 0 [])) a = b := by
        rw [← hτ]
        refine Tp.inst_congr _ _ a fun n hn => ?_
        have hn2 := (rightS_all hra n).1 hn
        obtain ⟨i, rfl⟩ : ∃ i : Nat, n = i := ⟨n.toNat, by omega⟩
        simp only [Int.toNat_natCast, List.getD_eq_getElem?_getD, List.getElem?_map]
        rw [List.getElem?_range (by omega)]
        rfl
      have hins := insta_eq hra (l := (List.range g).map fun (i : Nat) => τ i) (by rw [hgl])
      rw [hin] at hins
      by_cases hbig : 1000 < b.cnt
      · rw [if_pos hbig] at hins
        refine .inr (.inr ⟨_, hMa, ?_, ?_⟩)
        · intro wz p c N hz hL
          refine (Instance_any wz na N g _ a _ _ (ha.below hz) hca hL hga).mono ?_
          rintro e w' ⟨vs', n', rfl, h1, h2⟩
          rw [hins] at h1 ⊢
          obtain ⟨a', c', rfl⟩ := h1.form
          exact ⟨a', c', rfl, h2⟩
        · intro wz hz
          refine (Fits12 wz nb _ b (hb.below hz)).mono ?_
          rintro e w' ⟨rfl, h2⟩
          refine ⟨?_, h2⟩
          unfold Tp.upto
          rw [if_neg (by omega)]
      · rw [if_neg hbig] at hins
        refine .inr (.inl ⟨_, hMa, ?_, ?_⟩)
        · intro wz p c N hz hL
          refine (Instance_any wz na N g _ a _ _ (ha.below hz) hca hL hga).mono ?_
          rintro e w' ⟨vs', n', rfl, h1, h2⟩
          rw [hins] at h1 ⊢
          obtain ⟨a', c', rfl⟩ := h1.form
          exact ⟨a', n', c', rfl, h1.any, h2⟩
        · intro wz a9 n9 c9 hz h9
          refine (Same_any wz n9 nb _ _ b b h9 (hb.below hz)).mono ?_
          rintro e w' ⟨rfl, h2⟩
          exact ⟨by rw [cmp_self], h2⟩
    · refine .inl ?_
      intro wz hz
      refine (Match_any wz na nb ga gb _ _ a b (ha.below hz) (hb.below hz) hca hcb).mono ?_
      rintro e w' ⟨h | h, h2⟩
      · exact absurd h.1 hM
      · exact ⟨h.2, h2⟩
  have hRi : ∀ wz, Below w.heap.size w wz → Calls Try.prog 22 #[.agg #[.int .i64 t.k, .int .i64 t.n, .slice t1 t.ks.length t2]] wz fun e w' => e = .returned (.bool t.right) ∧ Below wz.heap.size wz w' := fun wz hz => Right_any wz nt _ t (ht.below hz)
  cases hr : t.right with
  | false =>
    rw [hr] at hRi
    rcases part2 with hMa | ⟨ml, hMa, hI2, hSa⟩ | ⟨ml, hMa, hI2, hFi⟩
    · exact general_AM0 w nl ga gb t y a b t1 a1 b1 kp lp t2 a2 b2 kc lc m keep l hGe hRi hMa hLive
    · exact general_AM1 w nl ga gb t y a b t1 a1 b1 kp lp t2 a2 b2 kc lc m keep l hGe hRi ml hMa hI2 hSa hLive
    · exact general_AM2 w nl ga gb t y a b t1 a1 b1 kp lp t2 a2 b2 kc lc m keep l hGe hRi ml hMa hI2 hFi hLive
  | true =>
    rw [hr] at hRi
    obtain ⟨g8, hg8⟩ : ∃ g8, (Tp.found 8 t []).length = g8 := ⟨_, rfl⟩
    have hGn : ∀ wz, Below w.heap.size w wz → Calls Try.prog 23 #[.agg #[.int .i64 t.k, .int .i64 t.n, .slice t1 t.ks.length t2]] wz fun e w' => ∃ p q, e = .returned (.slice p g8 q) ∧ Below wz.heap.size wz w' := by
      intro wz hz
      refine (Gens_any wz nt _ t (ht.below hz) hct).mono ?_
      rintro e w' ⟨v, rfl, h1, h2⟩
      obtain ⟨p, q, rfl, -⟩ := h1.form
      exact ⟨p, q, by rw [hg8], h2⟩
    by_cases hz8 : g8 = 0
    · rw [hz8] at hGn hg8
      have hs8 := all_nil_of_found hg8
      have hrs : Tp.rightS (m : Int) y = true := by have := gen_right (keep := keep) hr hs8; rw [hm, hy] at this; exact this
      have hRS : Hid (∀ wz a5 n5 c5, TAt wz Any n5 [.int .i64 y.k, .int .i64 y.n, .slice a5 y.ks.length c5] y → Calls Try.prog 24 #[.agg #[.int .i64 (m : Nat), .int .i64 y.k, .int .i64 y.n, .slice a5 y.ks.length c5]] wz fun e w' => e = .returned (.bool true) ∧ Below wz.heap.size wz w') := fun wz a5 n5 c5 h5 => (RightScheme_any wz n5 m _ y h5 hcy).mono fun e w' h => by rw [hrs] at h; exact h
      have hLl : Hid (∀ wz, Below w.heap.size w wz → TAtL wz Any nl (.slice lp l.length lc) l) := fun wz hz => hl.below hz
      obtain ⟨x, q, hxq⟩ : ∃ x q, Tp.insta (m : Int) y l = (x, q) := ⟨_, _, rfl⟩
      have hIn : Hid (∀ wz a5 n5 c5, Below w.heap.size w wz → TAt wz Any n5 [.int .i64 y.k, .int .i64 y.n, .slice a5 y.ks.length c5] y → Calls Try.prog 10 #[.agg #[.int .i64 (m : Nat), .int .i64 y.k, .int .i64 y.n, .slice a5 y.ks.length c5], .slice lp l.length lc] wz fun e w' => ∃ a6 n6 c6, e = .returned (.tuple #[.agg #[.int .i64 x.k, .int .i64 x.n, .slice a6 x.ks.length c6], .int .i64 q]) ∧ TAt w' Any n6 [.int .i64 x.k, .int .i64 x.n, .slice a6 x.ks.length c6] x ∧ Below wz.heap.size wz w') := by
        intro wz a5 n5 c5 hz h5
        refine (Instance_any wz n5 nl m _ y _ l h5 hcy (hl.below hz) hm64).mono ?_
        rintro e w' ⟨vs', n', rfl, h1, h2⟩
        rw [hxq] at h1 ⊢
        obtain ⟨a', c', rfl⟩ := h1.form
        exact ⟨a', n', c', rfl, h1.any, h2⟩
      by_cases hgd : l.all Tp.right = true
      · by_cases hq0 : q = 0
        · subst hq0
          obtain ⟨-, hlg, hxe⟩ := insta_ok hxq
          obtain ⟨gx, hgx⟩ : ∃ gx, (Tp.found 8 x []).length = gx := ⟨_, rfl⟩
          have hcx : x.cnt ≤ 1048576 := by
            rw [insta_eq hrs hlg] at hxq
            split at hxq
            · have := (Prod.mk.inj hxq).2; omega
            · rw [hxe]; omega
          have hGx : Hid (∀ wz a6 n6 c6, TAt wz Any n6 [.int .i64 x.k, .int .i64 x.n, .slice a6 x.ks.length c6] x → Calls Try.prog 23 #[.agg #[.int .i64 x.k, .int .i64 x.n, .slice a6 x.ks.length c6]] wz fun e w' => ∃ p q, e = .returned (.slice p gx q) ∧ Below wz.heap.size wz w') := by
            intro wz a6 n6 c6 h6
            refine (Gens_any wz n6 _ x h6 hcx).mono ?_
            rintro e w' ⟨v, rfl, h1, h2⟩
            obtain ⟨p, q, rfl, -⟩ := h1.form
            exact ⟨p, q, by rw [hgx], h2⟩
          by_cases hgx0 : gx = 0
          · rw [hgx0] at hGx hgx
            have hx8 := all_nil_of_found hgx
            have hxr : x.right = true := by
              rw [hxe]
              refine Tp.inst_right2 _ y (rightS_right hrs) fun n hn => ?_
              have hn2 := (rightS_all hrs n).1 hn
              have hlt : n.toNat < l.length := by omega
              simp only [List.getD_eq_getElem?_getD, List.getElem?_eq_getElem hlt, Option.getD_some]
              exact List.all_eq_true.1 hgd _ (List.getElem_mem hlt)
            have hx0 : Tp.rightS 0 x = true := by
              unfold Tp.rightS
              rw [hxr, Tp.found_dd, hx8]
              rfl
            have hmat : MatOk (m : Int) 0 y x := ⟨hrs, hx0, _, hxe.symm⟩
            have hMo : Hid (∀ wz a6 c6, Calls Try.prog 25 #[.agg #[.int .i64 x.k, .int .i64 x.n, .slice a6 x.ks.length c6]] wz fun e w' => e = .returned (.agg #[.int .i64 0, .int .i64 x.k, .int .i64 x.n, .slice a6 x.ks.length c6]) ∧ Below wz.heap.size wz w') := fun wz a6 c6 => Mono_any wz x a6 c6
            have hAL : Hid (∀ wz a5 n5 c5 a6 n6 c6, TAt wz Any n5 [.int .i64 y.k, .int .i64 y.n, .slice a5 y.ks.length c5] y → TAt wz Any n6 [.int .i64 x.k, .int .i64 x.n, .slice a6 x.ks.length c6] x → Calls Try.prog 17 #[.agg #[.int .i64 (m : Nat), .int .i64 y.k, .int .i64 y.n, .slice a5 y.ks.length c5], .agg #[.int .i64 0, .int .i64 x.k, .int .i64 x.n, .slice a6 x.ks.length c6]] wz fun e w' => e = .returned (.bool true) ∧ Below wz.heap.size wz w') := fun wz a5 n5 c5 a6 n6 c6 h5 h6 => AtLeast_any wz n5 n6 m 0 _ _ y x h5 h6 hcy hcx true ⟨fun _ => hmat, fun _ => rfl⟩
            rcases part2 with hMa | ⟨ml, hMa, hI2, hSa⟩ | ⟨ml, hMa, hI2, hFi⟩
            · exact general_C4M0 w nl ga gb t y a b t1 a1 b1 kp lp t2 a2 b2 kc lc m keep l hGe hRi 0 hGn hRS hlm hLl hgd x 0 hIn 0 hGx hMo hAL hMa hLive
            · exact general_C4M1 w nl ga gb t y a b t1 a1 b1 kp lp t2 a2 b2 kc lc m keep l hGe hRi 0 hGn hRS hlm hLl hgd x 0 hIn 0 hGx hMo hAL ml hMa hI2 hSa hLive
            · exact general_C4M2 w nl ga gb t y a b t1 a1 b1 kp lp t2 a2 b2 kc lc m keep l hGe hRi 0 hGn hRS hlm hLl hgd x 0 hIn 0 hGx hMo hAL ml hMa hI2 hFi hLive
          · have hgxn : ((gx : Int) == 0) = false := by rw [beq_eq_false_iff_ne]; omega
            rcases part2 with hMa | ⟨ml, hMa, hI2, hSa⟩ | ⟨ml, hMa, hI2, hFi⟩
            · exact general_C3M0 w nl ga gb t y a b t1 a1 b1 kp lp t2 a2 b2 kc lc m keep l hGe hRi 0 hGn hRS hlm hLl hgd x 0 hIn gx hgxn hGx hMa hLive
            · exact general_C3M1 w nl ga gb t y a b t1 a1 b1 kp lp t2 a2 b2 kc lc m keep l hGe hRi 0 hGn hRS hlm hLl hgd x 0 hIn gx hgxn hGx ml hMa hI2 hSa hLive
            · exact general_C3M2 w nl ga gb t y a b t1 a1 b1 kp lp t2 a2 b2 kc lc m keep l hGe hRi 0 hGn hRS hlm hLl hgd x 0 hIn gx hgxn hGx ml hMa hI2 hFi hLive
        · have hqn : (q == 0) = false := by rw [beq_eq_false_iff_ne]; exact hq0
          rcases part2 with hMa | ⟨ml, hMa, hI2, hSa⟩ | ⟨ml, hMa, hI2, hFi⟩
          · exact general_C2M0 w nl ga gb t y a b t1 a1 b1 kp lp t2 a2 b2 kc lc m keep l hGe hRi 0 hGn hRS hlm hLl hgd x q hqn hIn hMa hLive
          · exact general_C2M1 w nl ga gb t y a b t1 a1 b1 kp lp t2 a2 b2 kc lc m keep l hGe hRi 0 hGn hRS hlm hLl hgd x q hqn hIn ml hMa hI2 hSa hLive
          · exact general_C2M2 w nl ga gb t y a b t1 a1 b1 kp lp t2 a2 b2 kc lc m keep l hGe hRi 0 hGn hRS hlm hLl hgd x q hqn hIn ml hMa hI2 hFi hLive
      · have hgd' : l.all Tp.right = false := by simpa using hgd
        rcases part2 with hMa | ⟨ml, hMa, hI2, hSa⟩ | ⟨ml, hMa, hI2, hFi⟩
        · exact general_C1M0 w nl ga gb t y a b t1 a1 b1 kp lp t2 a2 b2 kc lc m keep l hGe hRi 0 hGn hRS hlm hLl hgd' x q hIn hMa hLive
        · exact general_C1M1 w nl ga gb t y a b t1 a1 b1 kp lp t2 a2 b2 kc lc m keep l hGe hRi 0 hGn hRS hlm hLl hgd' x q hIn ml hMa hI2 hSa hLive
        · exact general_C1M2 w nl ga gb t y a b t1 a1 b1 kp lp t2 a2 b2 kc lc m keep l hGe hRi 0 hGn hRS hlm hLl hgd' x q hIn ml hMa hI2 hFi hLive
    · have hg8n : ((g8 : Int) == 0) = false := by rw [beq_eq_false_iff_ne]; omega
      rcases part2 with hMa | ⟨ml, hMa, hI2, hSa⟩ | ⟨ml, hMa, hI2, hFi⟩
      · exact general_BM0 w nl ga gb t y a b t1 a1 b1 kp lp t2 a2 b2 kc lc m keep l hGe hRi g8 hg8n hGn hMa hLive
      · exact general_BM1 w nl ga gb t y a b t1 a1 b1 kp lp t2 a2 b2 kc lc m keep l hGe hRi g8 hg8n hGn ml hMa hI2 hSa hLive
      · exact general_BM2 w nl ga gb t y a b t1 a1 b1 kp lp t2 a2 b2 kc lc m keep l hGe hRi g8 hg8n hGn ml hMa hI2 hFi hLive
end Go.Proofs.Ythijckdhndbdoaa
