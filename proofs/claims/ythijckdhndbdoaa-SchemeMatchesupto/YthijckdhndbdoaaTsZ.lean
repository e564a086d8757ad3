/- Match, AtLeast, Alike. -/
import Derived.Test.YthijckdhndbdoaaTsY
namespace Go.Proofs.Ythijckdhndbdoaa
open Go.RowKit
set_option linter.unusedVariables false
set_option linter.unusedSimpArgs false

mutual
theorem Tp.ren_id : ∀ t : Tp, Tp.ren (fun k n => (k, n)) t = t
  | .mk k n ks => by rw [Tp.ren, Tp.renL_id ks]
theorem Tp.renL_id : ∀ l : List Tp, Tp.renL (fun k n => (k, n)) l = l
  | [] => by rw [Tp.renL]
  | x :: r => by rw [Tp.renL, Tp.ren_id x, Tp.renL_id r]
end
mutual
theorem Tp.inst_cnt (τ : Int → Tp) : ∀ (t : Tp) (n : Int), t.right = true → n ∈ Tp.all 8 t → (τ n).cnt ≤ (Tp.inst τ t).cnt
  | .mk k m ks, n, hr, hn => by
    rw [Tp.all] at hn
    rw [Tp.inst]
    rw [Tp.right, Bool.and_eq_true] at hr
    by_cases hk : k = 8
    · subst hk
      have hz := (Tp.right_gen (t := .mk 8 m ks) (by rw [Tp.right, Bool.and_eq_true]; exact hr) rfl).2
      simp only [Tp.ks] at hz
      subst hz
      rw [if_pos rfl, Tp.allL] at hn
      simp at hn
      rw [if_pos rfl, hn]
      exact Nat.le_refl _
    · rw [if_neg hk, List.nil_append] at hn
      rw [if_neg hk, Tp.cnt]
      have := Tp.instL_cnt τ ks n hr.2 hn
      omega
theorem Tp.instL_cnt (τ : Int → Tp) : ∀ (l : List Tp) (n : Int), Tp.rightL l = true → n ∈ Tp.allL 8 l → (τ n).cnt ≤ Tp.cntL (Tp.instL τ l)
  | [], n, hr, hn => by rw [Tp.allL] at hn; cases hn
  | x :: r, n, hr, hn => by
    rw [Tp.allL] at hn
    rw [Tp.rightL, Bool.and_eq_true] at hr
    rw [Tp.instL, Tp.cntL]
    rcases List.mem_append.1 hn with hn | hn
    · have := Tp.inst_cnt τ x n hr.1 hn; omega
    · have := Tp.instL_cnt τ r n hr.2 hn; omega
end
/-- Is the first scheme at least as general? -/
def MatOk (ga gb : Int) (a b : Tp) : Prop := Tp.rightS ga a = true ∧ Tp.rightS gb b = true ∧ ∃ τ, Tp.inst τ a = b
/-- A list of types that is being made. -/
structure Tl (w : World) (l : List Tp) (k N : Nat) (cur : List Value) (wr : World) : Prop where
  bl : Below w.heap.size w wr
  arr : Arr wr w.heap.size 24 cur
  len : cur.length = l.length * 3
  done : ∀ (i : Nat) x, i < k → l[i]? = some x → ∃ a c, TAt wr (fun b => w.heap.size < b) N [.int .i64 x.k, .int .i64 x.n, .slice a x.ks.length c] x ∧ Seg cur (i * 3) [.int .i64 x.k, .int .i64 x.n, .slice a x.ks.length c]
theorem Tl.stays {w : World} {l : List Tp} {k N : Nat} {cur : List Value} {wr wz : World} (h : Tl w l k N cur wr) (hb : Below wr.heap.size wr wz) : Tl w l k N cur wz :=
  ⟨bl_tr h.bl hb, h.arr.stays hb, h.len, fun i x hi hx => by obtain ⟨a, c, h1, h2⟩ := h.done i x hi hx; exact ⟨a, c, h1.below hb, h2⟩⟩
theorem Tl.store {w : World} {l : List Tp} {k N : Nat} {cur : List Value} {wr : World} (h : Tl w l k N cur wr) (hk : k < l.length) {y : Tp} (hx : l[k]? = some y) {N' : Nat} {a : Option Addr} {c : Nat} (hT : TAt wr (fun b => w.heap.size < b) N' [.int .i64 y.k, .int .i64 y.n, .slice a y.ks.length c] y) :
    Tl w l (k + 1) (max N N') (((cur.set (k * 3) (.int .i64 y.k)).set (k * 3 + 1) (.int .i64 y.n)).set (k * 3 + 2) (.slice a y.ks.length c)) (((wr.setCell ⟨w.heap.size, k * 3, none⟩ (.int .i64 y.k)).setCell ⟨w.heap.size, k * 3 + 1, none⟩ (.int .i64 y.n)).setCell ⟨w.heap.size, k * 3 + 2, none⟩ (.slice a y.ks.length c)) := by
  have hK : ∀ (W : World) j u, Keeps (fun b => w.heap.size < b) W (W.setCell ⟨w.heap.size, j, none⟩ u) := fun W j u => Keeps.set (K := fun b => w.heap.size < b) (p := ⟨w.heap.size, j, none⟩) (fun h => Nat.lt_irrefl _ h) u
  have hKK : Keeps (fun b => w.heap.size < b) wr (((wr.setCell ⟨w.heap.size, k * 3, none⟩ (.int .i64 y.k)).setCell ⟨w.heap.size, k * 3 + 1, none⟩ (.int .i64 y.n)).setCell ⟨w.heap.size, k * 3 + 2, none⟩ (.slice a y.ks.length c)) := ((hK _ _ _).trans (hK _ _ _)).trans (hK _ _ _)
  have hlen : k * 3 + 2 < cur.length := by rw [h.len]; omega
  have hs : ∀ (W : World) j u, Below w.heap.size w W → Below w.heap.size w (W.setCell ⟨w.heap.size, j, none⟩ u) := fun W j u h => bl_set _ _ h (Nat.le_refl _)
  refine ⟨hs _ _ _ (hs _ _ _ (hs _ _ _ h.bl)), ((h.arr.set _ _).set _ _).set _ _, by simp only [List.length_set]; exact h.len, fun i z hi hz => ?_⟩
  by_cases he : i = k
  · subst he
    rw [hx] at hz
    injection hz with hz
    subst hz
    exact ⟨a, c, (hT.move hKK (fun _ h => h)).le (Nat.le_max_right _ _), Seg.set3 hlen⟩
  · obtain ⟨a1, c1, h1, h2⟩ := h.done i z (by omega) hz
    exact ⟨a1, c1, (h1.move hKK (fun _ h => h)).le (Nat.le_max_left _ _), h2.other3 rfl (by omega)⟩
theorem Tl.fin {w : World} {l : List Tp} {N : Nat} {cur : List Value} {wr : World} (h : Tl w l l.length N cur wr) (hl : l.length ≤ 1048576) : TAtL wr (fun b => w.heap.size ≤ b) N (.slice (some ⟨w.heap.size, 0, none⟩) l.length l.length) l := by
  refine .inl ⟨_, 0, _, rfl, Nat.le_refl _, Nat.le_refl _, by unfold maxLen; omega, fun i x hx => ?_⟩
  obtain ⟨a, c, h1, h2⟩ := h.done i x (List.getElem?_eq_some_iff.1 hx).1 hx
  refine ⟨_, ?_, h1.move (Keeps.refl _ _) (fun b hb => by omega)⟩
  rw [Nat.zero_add]
  exact Seg.cells h.arr h2
/-- What Match answers. -/
def MatAns (ga gb : Int) (a b : Tp) (e : Ending) (w w' : World) : Prop :=
  (MatOk ga gb a b ∧ ∃ p c l N, e = .returned (.tuple #[.slice p (List.length l) c, .bool true]) ∧ TAtL w' (fun b => w.heap.size ≤ b) N (.slice p (List.length l) c) l ∧ (l.length : Int) = ga ∧ Tp.inst (fun i => l.getD i.toNat (.mk 0 0 [])) a = b) ∨
  (¬ MatOk ga gb a b ∧ e = .returned (.tuple #[.slice none 0 0, .bool false]))

set_option maxHeartbeats 4000000 in
set_option maxRecDepth 100000 in
theorem Match_any (w : World) (na nb : Nat) (ga gb : Int) (va vb : List Value) (a b : Tp) (ha : TAt w Any na va a) (hb : TAt w Any nb vb b) (hca : a.cnt ≤ 1048576) (hcb : b.cnt ≤ 1048576) :
    Calls Try.prog 14 #[.agg (.int .i64 ga :: va).toArray, .agg (.int .i64 gb :: vb).toArray] w fun e w' => MatAns ga gb a b e w w' ∧ Below w.heap.size w w' := by
  obtain ⟨a1, c1, rfl⟩ := ha.form
  obtain ⟨b1, d1, rfl⟩ := hb.form
  have HBB : Hid (∀ o o', Below w.heap.size w ((w.alloc o).alloc o')) := fun o o' => bl_alloc (bl_alloc (Below.refl _ _) _) _
  have HA0 : Hid (∀ o, Arr ((w.alloc (.cells #[.int .i64 ga, .int .i64 a.k, .int .i64 a.n, .slice a1 a.ks.length c1] 26)).alloc o) w.heap.size 26 [.int .i64 ga, .int .i64 a.k, .int .i64 a.n, .slice a1 a.ks.length c1]) := fun o => Arr.stays ⟨heap_alloc_at _ _⟩ (bl_alloc (Below.refl _ _) _)
  have HA1 : Hid (∀ o, Arr ((w.alloc o).alloc (.cells #[.int .i64 gb, .int .i64 b.k, .int .i64 b.n, .slice b1 b.ks.length d1] 26)) (w.heap.size + 1) 26 [.int .i64 gb, .int .i64 b.k, .int .i64 b.n, .slice b1 b.ks.length d1]) := fun o => ⟨by have := heap_alloc_at (w.alloc o) (.cells #[.int .i64 gb, .int .i64 b.k, .int .i64 b.n, .slice b1 b.ks.length d1] 26); rw [size_alloc] at this; exact this⟩
  have hR1 : Hid (∀ wz, Below w.heap.size w wz → Calls Try.prog 24 #[.agg #[.int .i64 ga, .int .i64 a.k, .int .i64 a.n, .slice a1 a.ks.length c1]] wz fun e w' => e = .returned (.bool (Tp.rightS ga a)) ∧ Below wz.heap.size wz w') := fun wz hz => RightScheme_any wz na ga _ a (ha.below hz) hca
  have hR2 : Hid (∀ wz, Below w.heap.size w wz → Calls Try.prog 24 #[.agg #[.int .i64 gb, .int .i64 b.k, .int .i64 b.n, .slice b1 b.ks.length d1]] wz fun e w' => e = .returned (.bool (Tp.rightS gb b)) ∧ Below wz.heap.size wz w') := fun wz hz => RightScheme_any wz nb gb _ b (hb.below hz) hcb
  cases hra : Tp.rightS ga a with
  | false =>
    rw [hra] at hR1
    have HN : Hid (¬ MatOk ga gb a b) := fun h => by have := h.1; rw [hra] at this; cases this
    clear ha hb hra hR2
    go_enter Try.func14, Try.ntmps14
    go_wp2_with (go_at_call 24; refine (hR1.out _ (HBB.out _ _)).mono ?_; rintro e w3 ⟨rfl, hb3⟩; have HB3 := hid (bl_tr (HBB.out _ _) hb3); clear hb3)
    go_ret2
    exact ⟨.inr ⟨HN.out, rfl⟩, HB3.out⟩
  | true =>
    cases hrb : Tp.rightS gb b with
    | false =>
      rw [hra] at hR1
      rw [hrb] at hR2
      have HN : Hid (¬ MatOk ga gb a b) := fun h => by have := h.2.1; rw [hrb] at this; cases this
      clear ha hb hra hrb
      go_enter Try.func14, Try.ntmps14
      go_wp2_with (first | (go_at_call 24; refine (hR1.out _ (HBB.out _ _)).mono ?_; rintro e w3 ⟨rfl, hb3⟩; have HB3 := hid (bl_tr (HBB.out _ _) hb3); have q1 := ((HA1.out _).stays hb3).cell; clear hb3 hR1) | (go_at_call 24; refine (hR2.out _ HB3.out).mono ?_; rintro e w4 ⟨rfl, hb4⟩; have HB4 := hid (bl_tr HB3.out hb4); clear hb4))
      go_ret2
      exact ⟨.inr ⟨HN.out, rfl⟩, HB4.out⟩
    | true =>
      obtain ⟨g, rfl⟩ : ∃ g : Nat, ga = g := ⟨ga.toNat, by have := rightS_g hra hca; omega⟩
      have hgl : g ≤ 1048576 := by have := rightS_g hra hca; omega
      have hM : Hid (∀ wz, Below w.heap.size w wz → Calls Try.prog 45 #[.agg #[.int .i64 (g : Int), .int .i64 a.k, .int .i64 a.n, .slice a1 a.ks.length c1], .agg #[.int .i64 gb, .int .i64 b.k, .int .i64 b.n, .slice b1 b.ks.length d1]] wz fun e w' => ∃ F : Nat, Told2 w' F g a b e ∧ Below wz.heap.size wz w') := fun wz hz => (matched_any wz na nb g gb _ _ a b (ha.below hz) (hb.below hz) hra (rightS_right hrb) hca).mono fun e w' h => ⟨_, h⟩
      have hcn : Hid (∀ l : List Tp, l.length = g → Tp.inst (fun i => l.getD i.toNat (.mk 0 0 [])) a = b → ∀ x ∈ l, x.cnt ≤ 1048576) := by
        intro l hl he x hx
        obtain ⟨i, hi⟩ := List.getElem?_of_mem hx
        have hlt := (List.getElem?_eq_some_iff.1 hi).1
        have := Tp.inst_cnt (fun i => l.getD i.toNat (.mk 0 0 [])) a i (rightS_right hra) ((rightS_all hra i).2 ⟨by omega, by omega⟩)
        rw [he] at this
        simp only [Int.toNat_natCast, List.getD_eq_getElem?_getD, hi, Option.getD_some] at this
        omega
      have HOK : Hid (∀ τ, Tp.inst τ a = b → MatOk g gb a b) := fun τ h => ⟨hra, hrb, τ, h⟩
      have HNO : Hid ((¬ ∃ τ, Tp.inst τ a = b) → ¬ MatOk g gb a b) := fun h h2 => h h2.2.2
      rw [hra] at hR1
      rw [hrb] at hR2
      obtain ⟨M, hM1, hmk⟩ := made_cells g
      have hmk2 : ∀ w, (Instr.makeSlice 22 (.int .i64 (g : Int)) (.int .i64 (g : Int))).run Try.prog w = .ok (.slice (some ⟨w.heap.size, 0, none⟩) g g) (w.alloc (.cells M 24)) := fun w => hmk w hgl
      have HM1 := hid hM1
      clear ha hb hra hrb hmk hM1
      go_enter Try.func14, Try.ntmps14
      go_wp2_with (first | (go_at_call 24; refine (hR1.out _ (HBB.out _ _)).mono ?_; rintro e w3 ⟨rfl, hb3⟩; have HB3 := hid (bl_tr (HBB.out _ _) hb3); have HQ0 := hid ((HA0.out _).stays hb3); have HQ1 := hid ((HA1.out _).stays hb3); have q0 := HQ0.out.cell; have q1 := HQ1.out.cell; clear hb3 hR1) | (go_at_call 24; refine (hR2.out _ HB3.out).mono ?_; rintro e w4 ⟨rfl, hb4⟩; have HB4 := hid (bl_tr HB3.out hb4); have r0 := (HQ0.out.stays hb4).cell; have r1 := (HQ1.out.stays hb4).cell; clear hb4 q0 q1 HQ0 HQ1 HB3) | (go_at_call 45; refine (hM.out _ HB4.out).mono ?_; rintro e w5 ⟨F, h5, hb5⟩; have HB5 := hid (bl_tr HB4.out hb5); clear hb5 r0 r1; rcases h5 with ⟨l, hl, hin, rfl, hcl⟩ | ⟨rfl, hno⟩))
      · have hst : Tl w5 l 0 0 M.toList (w5.alloc (.cells M 24)) := ⟨bl_alloc (Below.refl _ _) _, ⟨by rw [heap_alloc_at]⟩, by rw [Array.length_toList, HM1.out, hl], fun i x hi => absurd hi (Nat.not_lt_zero _)⟩
        have HS := hid hst
        have HC := hid hcl
        have HIN := hid hin
        have HL := hid hl
        have HCN := hid (hcn.out l hl hin)
        clear hst hcl hin hcn HM1 hmk2 hM hR2 HA0 HA1 hca hcb HNO
        subst hl
        generalize w5.alloc (.cells M 24) = w6 at HS
        go_loopw [32] (fun v wr => ∃ (k N : Nat) (cur : List Value), v = .int .i64 k ∧ k ≤ l.length ∧ Hid (Tl w5 l k N cur wr)) (fun v _ => l.length - (intOf v).toNat)
        case atStart => exact ⟨0, _, _, rfl, Nat.zero_le _, HS⟩
        case round =>
          obtain ⟨k, N, cur, rfl, hkl, hR⟩ := hrel
          clear HS w6
          by_cases hlt : k < l.length
          · obtain ⟨x, hxk⟩ : ∃ x, l[k]? = some x := ⟨_, List.getElem?_eq_getElem hlt⟩
            obtain ⟨px, hpx, hPx⟩ := HC.out k x hxk
            have hpx' := (hR.out.bl.cell (p := ⟨F, k, none⟩) (World.block_lt_of_cell? _ _ hpx)).trans hpx
            obtain ⟨bx, ox, nx, vx, rfl, x0, x1, x2, xT⟩ := hPx.below hR.out.bl
            obtain ⟨ax, cx, ex⟩ := xT.form
            simp only [List.cons.injEq, and_true, true_and] at ex
            subst ex
            have hQ : Hid (Calls Try.prog 32 #[.agg #[.int .i64 x.k, .int .i64 x.n, .slice ax x.ks.length cx], .func (.func 46) #[] #[]] wr fun e w' => ∃ a n' c, e = .returned (.agg #[.int .i64 x.k, .int .i64 x.n, .slice a x.ks.length c]) ∧ TAt w' (fun b => wr.heap.size ≤ b) n' [.int .i64 x.k, .int .i64 x.n, .slice a x.ks.length c] x ∧ Below wr.heap.size wr w') := by
              refine (ren_any _ _ _ _ wr enters_itself (itself_maker wr) nx wr _ x (Below.refl _ _) xT (HCN.out x (List.mem_of_getElem? hxk))).mono ?_
              rintro e w' ⟨vs', n', rfl, h1, h2⟩
              rw [Tp.ren_id] at h1
              obtain ⟨a', c', rfl⟩ := h1.form
              exact ⟨a', n', c', rfl, h1, h2⟩
            have HX := hid hxk
            have hcl : ∀ j, j < 3 → k * 3 + j < cur.length := fun j hj => by have := hR.out.len; omega
            obtain ⟨u0, hu0⟩ : ∃ u, cur[k * 3]? = some u := ⟨_, List.getElem?_eq_getElem (hcl 0 (by omega))⟩
            obtain ⟨u1, hu1⟩ : ∃ u, cur[k * 3 + 1]? = some u := ⟨_, List.getElem?_eq_getElem (hcl 1 (by omega))⟩
            obtain ⟨u2, hu2⟩ : ∃ u, cur[k * 3 + 2]? = some u := ⟨_, List.getElem?_eq_getElem (hcl 2 (by omega))⟩
            have hg := hR.out.arr.lt
            clear hxk hcl hpx hPx xT
            go_wp2_with (go_at_call 32; refine hQ.out.mono ?_; rintro e w7 ⟨a7, n7, c7, rfl, hT7, hb7⟩; have HR7 := hid (hR.out.stays hb7); have hf7 := HR7.out.arr.frozen; have z0 := (HR7.out.arr.cell (k * 3)).trans hu0; have z1 := (HR7.out.arr.cell (k * 3 + 1)).trans hu1; have z2 := (HR7.out.arr.cell (k * 3 + 2)).trans hu2; have HT7 : Hid (TAt w7 (fun b => w5.heap.size < b) n7 _ x) := hT7.move (Keeps.refl _ _) (fun b hb => by omega); clear hT7 hb7)
            go_roundw
            case rel => exact ⟨k + 1, _, _, by go_num, by omega, HR7.out.store hlt HX.out HT7.out⟩
            case measure => simp [intOf]; omega
          · obtain rfl : k = l.length := by omega
            go_wp2
            go_ret2
            exact ⟨.inl ⟨HOK.out _ HIN.out, some ⟨w5.heap.size, 0, none⟩, l.length, l, N, rfl, TAtL.move (hR.out.fin hgl) (Keeps.refl _ _) (fun b hb => by have := HB5.out.size; omega), rfl, HIN.out⟩, bl_tr HB5.out hR.out.bl⟩
      · go_ret2
        exact ⟨.inr ⟨HNO.out hno, rfl⟩, HB5.out⟩

set_option maxHeartbeats 1000000 in
set_option maxRecDepth 100000 in
theorem AtLeast_any (w : World) (na nb : Nat) (ga gb : Int) (va vb : List Value) (a b : Tp) (ha : TAt w Any na va a) (hb : TAt w Any nb vb b) (hca : a.cnt ≤ 1048576) (hcb : b.cnt ≤ 1048576) (r : Bool) (hr : r = true ↔ MatOk ga gb a b) :
    Calls Try.prog 17 #[.agg (.int .i64 ga :: va).toArray, .agg (.int .i64 gb :: vb).toArray] w fun e w' => e = .returned (.bool r) ∧ Below w.heap.size w w' := by
  obtain ⟨a1, c1, rfl⟩ := ha.form
  obtain ⟨b1, d1, rfl⟩ := hb.form
  have HBB : Hid (∀ o o', Below w.heap.size w ((w.alloc o).alloc o')) := fun o o' => bl_alloc (bl_alloc (Below.refl _ _) _) _
  have hM : Hid (∀ o o', Calls Try.prog 14 #[.agg #[.int .i64 ga, .int .i64 a.k, .int .i64 a.n, .slice a1 a.ks.length c1], .agg #[.int .i64 gb, .int .i64 b.k, .int .i64 b.n, .slice b1 b.ks.length d1]] ((w.alloc o).alloc o') fun e w' => ∃ p n c, e = .returned (.tuple #[.slice p n c, .bool r]) ∧ Below ((w.alloc o).alloc o').heap.size ((w.alloc o).alloc o') w') := by
    intro o o'
    refine (Match_any _ na nb ga gb _ _ a b (ha.below (HBB.out o o')) (hb.below (HBB.out o o')) hca hcb).mono ?_
    rintro e w' ⟨h | h, h2⟩
    · obtain ⟨h1, p, c, l, N, rfl, -⟩ := h
      exact ⟨p, l.length, c, by rw [hr.2 h1], h2⟩
    · have : r = false := by cases r with | false => rfl | true => exact absurd (hr.1 rfl) h.1
      exact ⟨none, 0, 0, by rw [this]; exact h.2, h2⟩
  clear ha hb hca hcb hr
  go_enter Try.func17, Try.ntmps17
  go_wp2_with (go_at_call 14; refine (hM.out _ _).mono ?_; rintro e w3 ⟨p3, n3, c3, rfl, hb3⟩; have HB3 := hid (bl_tr (HBB.out _ _) hb3); clear hb3)
  go_ret
  exact ⟨rfl, HB3.out⟩
end Go.Proofs.Ythijckdhndbdoaa
