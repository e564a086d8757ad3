/- SchemeBack: the walk. -/
import Derived.Test.YthijckdhndbdoaaTsB
import Derived.Test.YthijckdhndbdoaaTsA
namespace Go.Proofs.Ythijckdhndbdoaa
open Go.RowKit
set_option linter.unusedVariables false
set_option linter.unusedSimpArgs false

def abv : List Int → Int → Int
  | [], n => n
  | x :: r, n => if x > 2147483648 then 4294967296 else abv r (if x ≥ n then x + 1 else n)
theorem abv_at {l : List Int} {k : Nat} {x n : Int} (hx : l[k]? = some x) : abv (l.drop k) n = if x > 2147483648 then 4294967296 else abv (l.drop (k + 1)) (if x ≥ n then x + 1 else n) := by
  obtain ⟨h1, e1⟩ := List.getElem?_eq_some_iff.1 hx
  rw [List.drop_eq_getElem_cons h1, e1, abv]
theorem abv_spec : ∀ (l : List Int) (n : Int), 0 ≤ n → n ≤ 2147483649 → abv l n = 4294967296 ∨ (n ≤ abv l n ∧ abv l n ≤ 2147483649 ∧ ∀ x ∈ l, x < abv l n)
  | [], n, h0, h1 => .inr ⟨Int.le_refl _, h1, fun x hx => by cases hx⟩
  | y :: r, n, h0, h1 => by
    rw [abv]
    by_cases hy : y > 2147483648
    · rw [if_pos hy]; exact .inl rfl
    · rw [if_neg hy]
      by_cases hn : y ≥ n
      · rw [if_pos hn]
        rcases abv_spec r (y + 1) (by omega) (by omega) with h | ⟨h2, h3, h4⟩
        · exact .inl h
        · refine .inr ⟨by omega, h3, fun x hx => ?_⟩
          rcases List.mem_cons.1 hx with rfl | hx
          · omega
          · exact h4 x hx
      · rw [if_neg hn]
        rcases abv_spec r n h0 h1 with h | ⟨h2, h3, h4⟩
        · exact .inl h
        · refine .inr ⟨h2, h3, fun x hx => ?_⟩
          rcases List.mem_cons.1 hx with rfl | hx
          · omega
          · exact h4 x hx

set_option maxHeartbeats 1000000 in
set_option maxRecDepth 100000 in
theorem above_any (w : World) (n : Nat) (vs : List Value) (t : Tp) (hT : TAt w Any n vs t) (hc : t.cnt ≤ 1048576) : Calls Try.prog 30 #[.agg vs.toArray] w fun e w' => e = .returned (.int .i64 (abv (Tp.found 7 t []) 0)) ∧ Below w.heap.size w w' := by
  obtain ⟨a, c, rfl⟩ := hT.form
  have HM : Hid (∀ o, Calls Try.prog 31 #[.agg #[.int .i64 t.k, .int .i64 t.n, .slice a t.ks.length c]] (w.alloc o) fun e w' => ∃ v, e = .returned v ∧ Ls w' Any v (Tp.found 7 t []) ∧ Below w.heap.size w w') := fun o => (Metas_any _ n _ t (hT.below (bl_alloc (Below.refl _ _) _)) hc).mono fun e w' ⟨v, h1, h2, h3⟩ => ⟨v, h1, h2, bl_tr (bl_alloc (Below.refl _ _) _) h3⟩
  clear hT hc
  generalize Tp.found 7 t [] = l at HM ⊢
  go_enter Try.func30, Try.ntmps30
  go_wp2_with (go_at_call 31; refine (HM.out _).mono ?_; rintro e w3 ⟨v3, rfl, hl3, hb3⟩; obtain ⟨p3, c3, rfl, hm3⟩ := hl3.form; have HL := hid hl3; have HB := hid hb3; clear hl3 hb3)
  unfold maxLen at hm3
  clear HM
  go_loopw [3, 5] (fun v3 v5 wr => ∃ (m : Int) (k : Nat), v3 = .int .i64 m ∧ v5 = .int .i64 k ∧ k ≤ l.length ∧ Hid (0 ≤ m ∧ m ≤ 2147483649) ∧ Hid (abv l 0 = abv (l.drop k) m) ∧ wr = w3) (fun _ v5 _ => l.length - (intOf v5).toNat)
  case atStart => exact ⟨0, 0, rfl, rfl, Nat.zero_le _, ⟨by decide, by decide⟩, rfl, rfl⟩
  case round =>
    obtain ⟨m, k, rfl, rfl, hk, hm, hH, rfl⟩ := hrel
    by_cases hlt : k < l.length
    · obtain ⟨b, o, c', hv, -, -, -, hl⟩ := HL.out.resolve_right (fun h => by rw [h.1] at hlt; exact absurd hlt (Nat.not_lt_zero _))
      injection hv with e1 e2 e3
      subst e1
      obtain ⟨x, hx⟩ : ∃ x, l[k]? = some x := ⟨_, List.getElem?_eq_getElem hlt⟩
      have hc := hl k x hx
      have HX := hH.out
      rw [abv_at hx] at HX
      clear hl hx hH e2 e3
      by_cases hbig : x > 2147483648
      · rw [if_pos hbig] at HX
        have HY := hid HX
        have hd : decide (x > 2147483648) = true := decide_eq_true hbig
        have hd' : decide (2147483648 < x) = true := decide_eq_true hbig
        clear HX hbig
        go_wp2
        go_ret
        exact ⟨ret_int HY.out.symm, HB.out⟩
      · rw [if_neg hbig] at HX
        have hd : decide (x > 2147483648) = false := decide_eq_false hbig
        have hd' : decide (2147483648 < x) = false := decide_eq_false hbig
        by_cases hge : x ≥ m
        · rw [if_pos hge] at HX
          have HY := hid HX
          have hd2 : decide (x ≥ m) = true := decide_eq_true hge
          have hd2' : decide (m ≤ x) = true := decide_eq_true hge
          have HN : Hid (0 ≤ x + 1 ∧ x + 1 ≤ 2147483649) := ⟨by have := hm.out; omega, by omega⟩
          have hwr : IntKind.i64.wrap (x + 1) = x + 1 := by rw [IntKind.wrap_i64]; have := hm.out; omega
          clear HX hbig hge
          go_wp2
          go_roundw
          case rel => exact ⟨x + 1, k + 1, rfl, by go_num, by omega, HN, HY, by trivial⟩
          case measure => simp [intOf]; omega
        · rw [if_neg hge] at HX
          have HY := hid HX
          have hd2 : decide (x ≥ m) = false := decide_eq_false hge
          have hd2' : decide (m ≤ x) = false := decide_eq_false hge
          clear HX hbig hge
          go_wp2
          go_roundw
          case rel => exact ⟨m, k + 1, rfl, by go_num, by omega, hm, HY, by trivial⟩
          case measure => simp [intOf]; omega
    · have HX := hH.out
      rw [List.drop_eq_nil_of_le (by omega), abv] at HX
      have HY := hid HX
      clear HX hH
      go_wp2
      go_ret
      exact ⟨ret_int HY.out.symm, HB.out⟩

set_option maxHeartbeats 1000000 in
set_option maxRecDepth 100000 in
theorem SameScheme_any (w : World) (na nb : Nat) (ga gb : Int) (va vb : List Value) (a b : Tp) (ha : TAt w Any na va a) (hb : TAt w Any nb vb b) : Calls Try.prog 28 #[.agg (.int .i64 ga :: va).toArray, .agg (.int .i64 gb :: vb).toArray] w fun e w' => e = .returned (.bool (ga == gb && Tp.cmp a b == 0)) ∧ Below w.heap.size w w' := by
  obtain ⟨a1, c1, rfl⟩ := ha.form
  obtain ⟨b1, d1, rfl⟩ := hb.form
  have HBB : Hid (∀ o o', Below w.heap.size w ((w.alloc o).alloc o')) := fun o o' => bl_alloc (bl_alloc (Below.refl _ _) _) _
  have hS : Hid (∀ o o', Calls Try.prog 26 #[.agg #[.int .i64 a.k, .int .i64 a.n, .slice a1 a.ks.length c1], .agg #[.int .i64 b.k, .int .i64 b.n, .slice b1 b.ks.length d1]] ((w.alloc o).alloc o') fun e w' => e = .returned (.bool (Tp.cmp a b == 0)) ∧ Below ((w.alloc o).alloc o').heap.size ((w.alloc o).alloc o') w') := fun o o' => Same_any _ na nb _ _ a b (ha.below (HBB.out o o')) (hb.below (HBB.out o o'))
  clear ha hb
  generalize (Tp.cmp a b == 0) = r at hS ⊢
  cases hg : (ga == gb) with
  | false =>
    go_enter Try.func28, Try.ntmps28
    go_wp2
    go_ret
    exact ⟨rfl, HBB.out _ _⟩
  | true =>
    go_enter Try.func28, Try.ntmps28
    go_wp2_with (go_at_call 26; refine (hS.out _ _).mono ?_; rintro e w3 ⟨rfl, hb3⟩; have HB3 := hid (bl_tr (HBB.out _ _) hb3); clear hb3)
    go_ret
    exact ⟨rfl, HB3.out⟩

theorem st2T {P : World → Prop} {W : World} {b1 b2 : Nat} {c1 c2 : List Value} (h : (∀ j : Nat, W.cell? ⟨b1, j, none⟩ = c1[j]?) ∧ (∀ j : Nat, W.cell? ⟨b2, j, none⟩ = c2[j]?) ∧ St P W) : St P W := h.2.2
theorem Gens_nil (w : World) (n : Nat) (vs : List Value) (t : Tp) (hT : TAt w Any n vs t) (hc : t.cnt ≤ 1048576) (h0 : Tp.all 8 t = []) : Calls Try.prog 23 #[.agg vs.toArray] w fun e w' => ∃ p c, e = .returned (.slice p 0 c) ∧ Below w.heap.size w w' := by
  refine (Gens_any w n vs t hT hc).mono ?_
  rintro e w' ⟨v, rfl, h1, h2⟩
  rw [Tp.found_dd, h0] at h1
  obtain ⟨p, c, rfl, -⟩ := h1.form
  exact ⟨p, c, rfl, h2⟩

set_option maxHeartbeats 8000000 in
set_option maxRecDepth 100000 in
theorem back_walk (w : World) (n : Nat) (gi : Int) (vs : List Value) (t : Tp) (hT : TAt w Any n vs t) (hc : t.cnt ≤ 1048576) : Calls Try.prog 7 #[.agg (.int .i64 gi :: vs).toArray] w fun e w' => e = .returned (.bool true) ∧ Below w.heap.size w w' := by
  obtain ⟨a, c, rfl⟩ := hT.form
  have HB0 : Hid (∀ o, Below w.heap.size w (w.alloc o)) := fun o => bl_alloc (Below.refl _ _) _
  have hRS : Hid (∀ wz, Below w.heap.size w wz → Calls Try.prog 24 #[.agg #[.int .i64 gi, .int .i64 t.k, .int .i64 t.n, .slice a t.ks.length c]] wz fun e w' => e = .returned (.bool (Tp.rightS gi t)) ∧ Below wz.heap.size wz w') := fun wz hz => RightScheme_any wz n gi _ t (hT.below hz) hc
  have hAl : Hid (∀ wz, Calls Try.prog 13 #[] wz fun e w' => e = .returned (.bool true) ∧ Below wz.heap.size wz w') := fun wz => alive12 wz
  have hAb : Hid (∀ wz, Below w.heap.size w wz → Calls Try.prog 30 #[.agg #[.int .i64 t.k, .int .i64 t.n, .slice a t.ks.length c]] wz fun e w' => e = .returned (.int .i64 (abv (Tp.found 7 t []) 0)) ∧ Below wz.heap.size wz w') := fun wz hz => above_any wz n _ t (hT.below hz) hc
  have HA0 : Hid (Arr (w.alloc (.cells #[.int .i64 gi, .int .i64 t.k, .int .i64 t.n, .slice a t.ks.length c] 26)) w.heap.size 26 [.int .i64 gi, .int .i64 t.k, .int .i64 t.n, .slice a t.ks.length c]) := ⟨heap_alloc_at _ _⟩
  cases hr : Tp.rightS gi t with
  | false =>
    rw [hr] at hRS
    clear hT hc hr hAb
    go_enter Try.func7, Try.ntmps7
    go_wp2_with (first | (go_at_call 24; refine (hRS.out _ (HB0.out _)).mono ?_; rintro e w3 ⟨rfl, hb3⟩; have HB3 := hid (bl_tr (HB0.out _) hb3); clear hb3) | (go_at_call 13; refine (hAl.out _).mono ?_; rintro e w4 ⟨rfl, hb4⟩; have HB4 := hid (bl_tr HB3.out hb4); clear hb4))
    go_ret
    exact ⟨rfl, HB4.out⟩
  | true =>
    obtain ⟨g, rfl⟩ : ∃ g : Nat, gi = g := ⟨gi.toNat, by have := rightS_g hr hc; omega⟩
    have hgl : g ≤ 1048576 := by have := rightS_g hr hc; omega
    obtain ⟨next, hnx⟩ : ∃ next, abv (Tp.found 7 t []) 0 = next := ⟨_, rfl⟩
    have hsp := abv_spec (Tp.found 7 t []) 0 (by decide) (by decide)
    rw [hnx] at hAb hsp
    have hnx0 : 0 ≤ next := by rcases hsp with h | h <;> omega
    have hRS' := hRS
    rw [hr] at hRS
    by_cases hbig : next > 2147483647
    · have hIB : Hid (∀ wz, Below w.heap.size w wz → Calls Try.prog 8 #[.agg #[.int .i64 (g : Int), .int .i64 t.k, .int .i64 t.n, .slice a t.ks.length c], .int .i64 next] wz fun e w' => e = .returned (.tuple #[.agg #[.int .i64 0, .int .i64 0, .slice none 0 0], .int .i64 0, .int .i64 1]) ∧ Below wz.heap.size wz w') := fun wz hz => Instantiate_bad wz n g next _ t (hT.below hz) hc (fun h => by have := h.2.2; omega)
      have hd : decide (next > 2147483647) = true := decide_eq_true hbig
      have hd' : decide (2147483647 < next) = true := decide_eq_true hbig
      clear hT hc hr hsp hRS' hbig hnx hnx0
      go_enter Try.func7, Try.ntmps7
      go_wp2_with (first | (go_at_call 24; refine (hRS.out _ (HB0.out _)).mono ?_; rintro e w3 ⟨rfl, hb3⟩; have HB3 := hid (bl_tr (HB0.out _) hb3); have HA3 := hid (HA0.out.stays hb3); have q3 := HA3.out.cell; clear hb3) | (go_at_call 30; refine (hAb.out _ HB3.out).mono ?_; rintro e w4 ⟨rfl, hb4⟩; have HB4 := hid (bl_tr HB3.out hb4); have HA4 := hid (HA3.out.stays hb4); have q4 := HA4.out.cell; clear hb4 q3) | (go_at_call 8; refine (hIB.out _ HB4.out).mono ?_; rintro e w5 ⟨rfl, hb5⟩; have HB5 := hid (bl_tr HB4.out hb5); clear hb5 q4) | (go_at_call 13; refine (hAl.out _).mono ?_; rintro e w6 ⟨rfl, hb6⟩; have HB6 := hid (bl_tr (bl_alloc HB5.out _) hb6); clear hb6))
      go_ret
      exact ⟨rfl, HB6.out⟩
    · have hIO : Hid (∀ wz, Below w.heap.size w wz → Calls Try.prog 8 #[.agg #[.int .i64 (g : Int), .int .i64 t.k, .int .i64 t.n, .slice a t.ks.length c], .int .i64 next] wz fun e w' => ∃ y a5 n5 c5, Tp.ren (mff next) t = y ∧ e = .returned (.tuple #[.agg #[.int .i64 y.k, .int .i64 y.n, .slice a5 y.ks.length c5], .int .i64 (next + g), .int .i64 0]) ∧ TAt w' Any n5 [.int .i64 y.k, .int .i64 y.n, .slice a5 y.ks.length c5] y ∧ Below wz.heap.size wz w') := by
        intro wz hz
        refine (Instantiate_ok wz n g next _ t (hT.below hz) hc ⟨hr, hnx0, by omega⟩).mono ?_
        rintro e w' ⟨vs', n', rfl, h1, h2⟩
        obtain ⟨a', c', rfl⟩ := h1.form
        exact ⟨_, a', n', c', rfl, rfl, h1.any, h2⟩
      have hab : ∀ x ∈ Tp.all 7 t, x < next := by
        rcases hsp with h | h
        · omega
        · exact fun x hx => h.2.2 x (Tp.mem_fnd.2 hx)
      obtain ⟨hb1, hb2⟩ := back_eq hr hnx0 (by omega) hgl hab
      have hg8 := Tp.all8_mff next t
      have hcy : (Tp.ren (mff next) t).cnt ≤ 1048576 := by rw [Tp.cnt_ren]; exact hc
      have hMe : Hid (∀ wz, Below w.heap.size w wz → Calls Try.prog 31 #[.agg #[.int .i64 t.k, .int .i64 t.n, .slice a t.ks.length c]] wz fun e w' => ∃ p m c, e = .returned (.slice p m c) ∧ Ls w' Any (.slice p m c) (Tp.found 7 t []) ∧ Below wz.heap.size wz w') := by
        intro wz hz
        refine (Metas_any wz n _ t (hT.below hz) hc).mono ?_
        rintro e w' ⟨v, rfl, h1, h2⟩
        obtain ⟨p, c, rfl, -⟩ := h1.form
        exact ⟨p, _, c, rfl, h1, h2⟩
      have hGe : Hid (∀ wz y a5 n5 c5 kv, Tp.ren (mff next) t = y → TAt wz Any n5 [.int .i64 y.k, .int .i64 y.n, .slice a5 y.ks.length c5] y → Ls wz Any kv (Tp.found 7 t []) → Calls Try.prog 21 #[.agg #[.int .i64 y.k, .int .i64 y.n, .slice a5 y.ks.length c5], kv] wz fun e w' => ∃ a6 n6 c6, e = .returned (.agg #[.int .i64 (g : Int), .int .i64 t.k, .int .i64 t.n, .slice a6 t.ks.length c6]) ∧ TAt w' Any n6 [.int .i64 t.k, .int .i64 t.n, .slice a6 t.ks.length c6] t ∧ Below wz.heap.size wz w') := by
        rintro wz y a5 n5 c5 kv rfl hTy hk
        refine (Generalise_any wz n5 _ _ kv _ hTy hk (hT.found64 7) (Nat.le_trans (Tp.found_len 7 t) hc) hcy).mono ?_
        rintro e w' ⟨vs', n', rfl, h1, h2⟩
        rw [hb2] at h1
        obtain ⟨a', c', rfl⟩ := h1.form
        exact ⟨a', n', c', by rw [hb1], h1.any, h2⟩
      have hGn : Hid (∀ wz y a5 n5 c5, Tp.ren (mff next) t = y → TAt wz Any n5 [.int .i64 y.k, .int .i64 y.n, .slice a5 y.ks.length c5] y → Calls Try.prog 23 #[.agg #[.int .i64 y.k, .int .i64 y.n, .slice a5 y.ks.length c5]] wz fun e w' => ∃ p c, e = .returned (.slice p 0 c) ∧ Below wz.heap.size wz w') := by
        rintro wz y a5 n5 c5 rfl hTy
        exact Gens_nil wz n5 _ _ hTy hcy hg8
      have hSS : Hid (∀ wz a6 n6 c6, Below w.heap.size w wz → TAt wz Any n6 [.int .i64 t.k, .int .i64 t.n, .slice a6 t.ks.length c6] t → Calls Try.prog 28 #[.agg #[.int .i64 (g : Int), .int .i64 t.k, .int .i64 t.n, .slice a6 t.ks.length c6], .agg #[.int .i64 (g : Int), .int .i64 t.k, .int .i64 t.n, .slice a t.ks.length c]] wz fun e w' => e = .returned (.bool true) ∧ Below wz.heap.size wz w') := by
        intro wz a6 n6 c6 hz h6
        refine (SameScheme_any wz n6 n g g _ _ t t h6 (hT.below hz)).mono ?_
        rintro e w' ⟨rfl, h2⟩
        exact ⟨by simp [cmp_self], h2⟩
      obtain ⟨sm, hsm⟩ : ∃ sm, next + (g : Int) = sm := ⟨_, rfl⟩
      have hwr : IntKind.i64.wrap (next + (g : Int)) = sm := by rw [IntKind.wrap_i64]; omega
      rw [hsm] at hIO
      have hss : (sm == sm) = true := by simp
      clear hT hc hr hsp hRS' hbig hnx hnx0 hab hb1 hb2 hg8 hcy hsm
      generalize Tp.ren (mff next) t = yy at hIO hGe hGn
      go_enter Try.func7, Try.ntmps7
      go_wp2_with (first | (go_at_call 24; refine (hRS.out _ (HB0.out _)).mono ?_; rintro e w3 ⟨rfl, hb3⟩; have HB3 := hid (bl_tr (HB0.out _) hb3); have HA3 := hid (HA0.out.stays hb3); have q3 := HA3.out.cell; clear hb3) | (go_at_call 30; refine (hAb.out _ HB3.out).mono ?_; rintro e w4 ⟨rfl, hb4⟩; have HB4 := hid (bl_tr HB3.out hb4); have HA4 := hid (HA3.out.stays hb4); have q4 := HA4.out.cell; clear hb4 q3) | (go_at_call 8; refine (hIO.out _ HB4.out).mono ?_; rintro e w5 ⟨y, a5, n5, c5, hy5, rfl, hT5, hb5⟩; have HB5 := hid (bl_tr HB4.out hb5); have HA5 := hid (HA4.out.stays hb5); have HT5 := hid hT5; have HY5 := hid hy5; clear hb5 q4 hT5 hy5))
      obtain ⟨W1, hW1⟩ : ∃ W1, w5.alloc (.cells #[.int .i64 y.k, .int .i64 y.n, .slice a5 y.ks.length c5] 24) = W1 := ⟨_, rfl⟩
      have Z := hid (((St.mk (P := fun W => Below w.heap.size w W) HB5.out (fun _ _ h hb => bl_tr h hb)).addA HA5.out).addT HT5.out)
      have Z := hid ((Z.out.stays (bl_alloc (Below.refl _ _) (.cells #[.int .i64 y.k, .int .i64 y.n, .slice a5 y.ks.length c5] 24))).addA (b := w5.heap.size) (T := 24) (cur := [.int .i64 y.k, .int .i64 y.n, .slice a5 y.ks.length c5]) ⟨heap_alloc_at _ _⟩)
      rw [hW1] at Z ⊢
      obtain ⟨P, b2, e2, ZP, k1, k2, qT, qB⟩ : ∃ (P : World → Prop) (b2 : Nat), b2 = w5.heap.size ∧ Hid (St P W1) ∧ Hid (∀ W, P W → ∀ j : Nat, W.cell? ⟨w.heap.size, j, none⟩ = [.int .i64 (g : Int), .int .i64 t.k, .int .i64 t.n, .slice a t.ks.length c][j]?) ∧ Hid (∀ W, P W → ∀ j : Nat, W.cell? ⟨b2, j, none⟩ = [.int .i64 y.k, .int .i64 y.n, .slice a5 y.ks.length c5][j]?) ∧ Hid (∀ W, P W → TAt W Any n5 [.int .i64 y.k, .int .i64 y.n, .slice a5 y.ks.length c5] y) ∧ Hid (∀ W, P W → Below w.heap.size w W) :=
        ⟨_, _, rfl, Z, fun W h => h.1.1.2.cell, fun W h => h.2.cell, fun W h => h.1.2, fun W h => h.1.1.1⟩
      rw [← e2]
      have mkS : Hid (∀ wz, St P wz → (∀ j : Nat, wz.cell? ⟨w.heap.size, j, none⟩ = [.int .i64 (g : Int), .int .i64 t.k, .int .i64 t.n, .slice a t.ks.length c][j]?) ∧ (∀ j : Nat, wz.cell? ⟨b2, j, none⟩ = [.int .i64 y.k, .int .i64 y.n, .slice a5 y.ks.length c5][j]?) ∧ St P wz) := fun wz h => ⟨k1.out wz h.here, k2.out wz h.here, h⟩
      have hs0 := hid (mkS.out _ (ZP.out.stays (Below.refl _ _).drew))
      clear Z e2 hW1 k1 k2 HA0 HA3 HA4 HA5 HB3 HB4 HB5 HT5 hRS hAb hIO HB0
      go_region_held (fun w' => (∀ j : Nat, w'.cell? ⟨w.heap.size, j, none⟩ = [.int .i64 (g : Int), .int .i64 t.k, .int .i64 t.n, .slice a t.ks.length c][j]?) ∧ (∀ j : Nat, w'.cell? ⟨b2, j, none⟩ = [.int .i64 y.k, .int .i64 y.n, .slice a5 y.ks.length c5][j]?) ∧ St P w') (first | exact hs0.out | exact mkS.out _ ((st2T (by assumption)).stays (by assumption))) (first
        | (go_at_call 23; refine (hGn.out _ _ _ _ _ HY5.out (qT.out _ (st2T (by assumption)).here)).mono ?_; rintro e w7 ⟨p7, c7, rfl, b7⟩)
        | (go_at_call 31; refine (hMe.out _ (qB.out _ (st2T (by assumption)).here)).mono ?_; rintro e w8 ⟨p8, m8, c8, rfl, h8, b8⟩; have H8 := hid h8; clear h8)
        | (go_at_call 21; refine (hGe.out _ _ _ _ _ _ HY5.out (qT.out _ (st2T (by assumption)).here) H8.out).mono ?_; rintro e w9 ⟨a9, n9, c9, rfl, h9, b9⟩; have H9 := hid h9; clear h9)
        | (go_at_call 28; refine (hSS.out _ _ _ _ (qB.out _ (st2T (by assumption)).here) H9.out).mono ?_; rintro e w10 ⟨rfl, b10⟩)
        | (go_at_call 13; refine (hAl.out _).mono ?_; rintro e w11 ⟨rfl, b11⟩))
      all_goals have HE := hid (qB.out _ (st2T (by assumption)).here)
      all_goals go_wp2
      all_goals go_ret
      all_goals exact ⟨rfl, HE.out⟩
end Go.Proofs.Ythijckdhndbdoaa
