/- Constructors in memory; the document's Con. -/
import Derived.Test.YtigliglmejkakaaQar
namespace Go.Proofs.Ytigliglmejkakaa
open Go.RowKit
set_option linter.unusedVariables false
set_option linter.unusedSimpArgs false

/-- A constructor: its name, and what it has. -/
structure Ct where
  nm : ByteArray
  args : List Tp
def CtAt (w : World) (K : Nat → Prop) (n : Nat) (vs : List Value) (c : Ct) : Prop := ∃ v, vs = [.string c.nm, v] ∧ TAtL w K n v c.args
def CtL (w : World) (K : Nat → Prop) (n : Nat) (v : Value) (l : List Ct) : Prop :=
  (∃ b o cp, v = .slice (some ⟨b, o, none⟩) l.length cp ∧ K b ∧ l.length ≤ cp ∧ l.length ≤ maxLen ∧ ∀ (i : Nat) c, l[i]? = some c → ∃ vs, Cells w b (o + i * 2) vs ∧ CtAt w K n vs c) ∨ (l = [] ∧ ∃ p c, v = .slice p 0 c)
theorem CtAt.below {w w' : World} {K : Nat → Prop} {n : Nat} {vs : List Value} {c : Ct} (h : CtAt w K n vs c) (hb : Below w.heap.size w w') : CtAt w' K n vs c := by
  obtain ⟨v, h1, h2⟩ := h
  exact ⟨v, h1, h2.below hb⟩
theorem CtL.below {w w' : World} {K : Nat → Prop} {n : Nat} {v : Value} {l : List Ct} (h : CtL w K n v l) (hb : Below w.heap.size w w') : CtL w' K n v l := by
  rcases h with ⟨b, o, cp, h1, h2, h3, h4, h5⟩ | h
  · exact .inl ⟨b, o, cp, h1, h2, h3, h4, fun i c hc => by obtain ⟨vs, g1, g2⟩ := h5 i c hc; exact ⟨vs, fun j u hu => (hb.cell (World.block_lt_of_cell? w _ (g1 j u hu))).trans (g1 j u hu), g2.below hb⟩⟩
  · exact .inr h
theorem CtAt.form {w : World} {K : Nat → Prop} {n : Nat} {vs : List Value} {c : Ct} (h : CtAt w K n vs c) : ∃ a cp, vs = [.string c.nm, .slice a c.args.length cp] ∧ TAtL w K n (.slice a c.args.length cp) c.args := by
  obtain ⟨v, h1, h2⟩ := h
  obtain ⟨a, cp, rfl, -⟩ := h2.form
  exact ⟨a, cp, h1, h2⟩
theorem CtL.form {w : World} {K : Nat → Prop} {n : Nat} {v : Value} {l : List Ct} (h : CtL w K n v l) : ∃ a c, v = .slice a l.length c ∧ l.length ≤ maxLen := by
  rcases h with ⟨b, o, cp, h1, -, -, h4, -⟩ | ⟨rfl, p, c, rfl⟩
  · exact ⟨_, _, h1, h4⟩
  · exact ⟨_, _, rfl, Nat.zero_le _⟩
theorem tat_two {W : World} {K : Nat → Prop} {N nb : Nat} {kind x : Int} {y z : Tgt.Tt} {vs us : List Value} (hk : Tgt.R64 kind) (hx : Tgt.R64 x) (hT : Tgt.TAt W K N vs y) (hU : Tgt.TAt W K N us z) (hl : vs.length = 4) (hnb : K nb) (hc : Tgt.Cells W nb 0 (vs ++ us)) : Tgt.TAt W K (N + 1) [.int .i64 kind, .int .i64 x, .slice none 0 0, .slice (some ⟨nb, 0, none⟩) 2 2] (.mk kind x [] [y, z]) := by
  refine ⟨_, _, rfl, hk, hx, .inr ⟨rfl, none, 0, rfl⟩, .inl ⟨nb, 0, 2, rfl, hnb, Nat.le_refl _, by unfold maxLen; simp [Tgt.Tt.ks], fun i q hq => ?_⟩⟩
  match i, hq with
  | 0, hq =>
    simp [Tgt.Tt.ks] at hq
    subst hq
    exact ⟨vs, fun j u hu => by have := hc j u (by rw [List.getElem?_append_left (List.getElem?_eq_some_iff.1 hu).1]; exact hu); simpa using this, hT⟩
  | 1, hq =>
    simp [Tgt.Tt.ks] at hq
    subst hq
    exact ⟨us, fun j u hu => by have := hc (4 + j) u (by rw [List.getElem?_append_right (by omega), hl]; simpa using hu); simpa [Nat.add_comm, Nat.add_left_comm, Nat.add_assoc] using this, hU⟩
  | i + 2, hq => simp [Tgt.Tt.ks] at hq
/-- Does a constructor have a type? -/
def okC (s : Int) (c : Ct) : Bool := decide (c.args.length ≤ 1) && (decide (0 ≤ s ∧ s ≤ 2147483647) && c.args.all Tp.okT)
def conT (s : Int) (c : Ct) : Tgt.Tt := match c.args with
  | [] => .mk 6 s [] []
  | x :: _ => .mk 4 0 [] [Tp.made 0 x, .mk 6 s [] []]

set_option maxHeartbeats 4000000 in
set_option maxRecDepth 100000 in
theorem refCon_any (w : World) (n : Nat) (s : Int) (vs : List Value) (c : Ct) (h : CtAt w Any n vs c) (hcnt : Tp.cntL c.args ≤ 1048576) : Calls Try.prog 16 #[.int .i64 s, .agg vs.toArray] w fun e w' => TtAns2 (okC s c) (conT s c) w e w' ∧ Below w.heap.size w w' := by
  obtain ⟨a1, c1, rfl, hA⟩ := h.form
  obtain ⟨-, -, -, hm⟩ := hA.form
  unfold maxLen at hm
  clear h
  have HB2 : Hid (Below w.heap.size w ((w.alloc (.cells #[.string c.nm, .slice a1 c.args.length c1] 43)).alloc (.cells #[.int .i64 0, .int .i64 0, .slice none 0 0, .slice none 0 0] 30))) := bl_alloc (bl_alloc (Below.refl _ _) _) _
  by_cases h1 : 1 < c.args.length
  · have g1 : (1 : Int) < (c.args.length : Int) := by omega
    have HK : Hid (okC s c = false) := by show _ = _; unfold okC; rw [decide_eq_false (by omega)]; rfl
    clear hA
    go_enter Try.func16, Try.ntmps16
    go_wp2
    refine bodyPost_ret (v := .tuple #[.agg #[.int .i64 0, .int .i64 0, .slice none 0 0, .slice none 0 0], .int .i64 1]) (by rw [results_cell2t (fn := Try.f16) (p := 4) (a := 5) (ty := 30) (by kernel_rfl)]; simp [go_sem]) rfl ?_
    exact ⟨.inr ⟨HK.out, rfl⟩, HB2.out⟩
  · have g1 : ¬ (1 : Int) < (c.args.length : Int) := by omega
    by_cases h2 : s < 0
    · have HK : Hid (okC s c = false) := by show _ = _; unfold okC; rw [decide_eq_false (p := 0 ≤ s ∧ s ≤ 2147483647) (by omega), Bool.false_and, Bool.and_false]
      clear hA
      go_enter Try.func16, Try.ntmps16
      go_wp2
      refine bodyPost_ret (v := .tuple #[.agg #[.int .i64 0, .int .i64 0, .slice none 0 0, .slice none 0 0], .int .i64 1]) (by rw [results_cell2t (fn := Try.f16) (p := 4) (a := 5) (ty := 30) (by kernel_rfl)]; simp [go_sem]) rfl ?_
      exact ⟨.inr ⟨HK.out, rfl⟩, HB2.out⟩
    · by_cases h3 : 2147483647 < s
      · have HK : Hid (okC s c = false) := by show _ = _; unfold okC; rw [decide_eq_false (p := 0 ≤ s ∧ s ≤ 2147483647) (by omega), Bool.false_and, Bool.and_false]
        clear hA
        go_enter Try.func16, Try.ntmps16
        go_wp2
        refine bodyPost_ret (v := .tuple #[.agg #[.int .i64 0, .int .i64 0, .slice none 0 0, .slice none 0 0], .int .i64 1]) (by rw [results_cell2t (fn := Try.f16) (p := 4) (a := 5) (ty := 30) (by kernel_rfl)]; simp [go_sem]) rfl ?_
        exact ⟨.inr ⟨HK.out, rfl⟩, HB2.out⟩
      · have hs64 : Tgt.R64 s := ⟨by omega, by omega⟩
        have hd : decide (0 ≤ s ∧ s ≤ 2147483647) = true := decide_eq_true (by omega)
        have HB3 : Hid (Below w.heap.size w (((w.alloc (.cells #[.string c.nm, .slice a1 c.args.length c1] 43)).alloc (.cells #[.int .i64 0, .int .i64 0, .slice none 0 0, .slice none 0 0] 30)).alloc (.cells #[.int .i64 6, .int .i64 s, .slice none 0 0, .slice none 0 0] 30))) := bl_alloc HB2.out _
        have X3 : Hid (Arr (((w.alloc (.cells #[.string c.nm, .slice a1 c.args.length c1] 43)).alloc (.cells #[.int .i64 0, .int .i64 0, .slice none 0 0, .slice none 0 0] 30)).alloc (.cells #[.int .i64 6, .int .i64 s, .slice none 0 0, .slice none 0 0] 30)) w.heap.size 43 [.string c.nm, .slice a1 c.args.length c1]) := Arr.stays (w := w.alloc (.cells #[.string c.nm, .slice a1 c.args.length c1] 43)) ⟨heap_alloc_at _ _⟩ (bl_alloc (bl_alloc (Below.refl _ _) _) _)
        have Y3 : Hid (Arr (((w.alloc (.cells #[.string c.nm, .slice a1 c.args.length c1] 43)).alloc (.cells #[.int .i64 0, .int .i64 0, .slice none 0 0, .slice none 0 0] 30)).alloc (.cells #[.int .i64 6, .int .i64 s, .slice none 0 0, .slice none 0 0] 30)) (w.heap.size + 1) 30 [.int .i64 0, .int .i64 0, .slice none 0 0, .slice none 0 0]) := by
          have := heap_alloc_at (w.alloc (.cells #[.string c.nm, .slice a1 c.args.length c1] 43)) (.cells #[.int .i64 0, .int .i64 0, .slice none 0 0, .slice none 0 0] 30)
          rw [size_alloc] at this
          exact Arr.stays (w := ((w.alloc (.cells #[.string c.nm, .slice a1 c.args.length c1] 43)).alloc (.cells #[.int .i64 0, .int .i64 0, .slice none 0 0, .slice none 0 0] 30))) ⟨this⟩ (bl_alloc (Below.refl _ _) _)
        have O3 : Hid (Arr (((w.alloc (.cells #[.string c.nm, .slice a1 c.args.length c1] 43)).alloc (.cells #[.int .i64 0, .int .i64 0, .slice none 0 0, .slice none 0 0] 30)).alloc (.cells #[.int .i64 6, .int .i64 s, .slice none 0 0, .slice none 0 0] 30)) (w.heap.size + 2) 30 [.int .i64 6, .int .i64 s, .slice none 0 0, .slice none 0 0]) := ⟨by have := heap_alloc_at ((w.alloc (.cells #[.string c.nm, .slice a1 c.args.length c1] 43)).alloc (.cells #[.int .i64 0, .int .i64 0, .slice none 0 0, .slice none 0 0] 30)) (.cells #[.int .i64 6, .int .i64 s, .slice none 0 0, .slice none 0 0] 30); rw [size_alloc, size_alloc] at this; exact this⟩
        have hs : ∀ (W : World) i u, Below w.heap.size w W → Below w.heap.size w (W.setCell ⟨w.heap.size + 1, i, none⟩ u) := fun W i u h => bl_set _ _ h (by show _ ≤ w.heap.size + 1; omega)
        have HSS := hid hs
        clear hs
        have hcase : c.args = [] ∨ ∃ x r, c.args = x :: r := by cases c.args <;> simp
        rcases hcase with hargs | ⟨x, r, hargs⟩
        · have hl0 : c.args.length = 0 := by rw [hargs]; rfl
          have HK : Hid (okC s c = true) := by show _ = _; unfold okC; rw [hd, hargs]; rfl
          have HE : Hid (conT s c = .mk 6 s [] []) := by show _ = _; unfold conT; rw [hargs]
          rw [hl0] at X3 Y3 O3 HB3 ⊢
          have y0 := Y3.out.cell
          have y1 := Y3.out.frozen
          clear hA hargs hd g1 h1
          go_enter Try.func16, Try.ntmps16
          go_wp2
          refine bodyPost_ret (v := .tuple #[.agg #[.int .i64 6, .int .i64 s, .slice none 0 0, .slice none 0 0], .int .i64 0]) (by rw [results_cell2t (fn := Try.f16) (p := 4) (a := 5) (ty := 30) (by kernel_rfl)]; simp [go_sem]) rfl ?_
          rw [HE.out]
          exact ⟨.inl ⟨HK.out, none, 0, none, 0, 1, rfl, tat_leaf 6 s (⟨by omega, by omega⟩ : Tgt.R64 6) hs64⟩, by first | exact HB3.out | exact bl_alloc (bl_alloc (bl_alloc (Below.refl _ _) _) _) _ | exact HSS.out _ _ _ (HSS.out _ _ _ (HSS.out _ _ _ (HSS.out _ _ _ HB3.out)))⟩
        · have hl1 : c.args.length = 1 := by rw [hargs] at h1 ⊢; simp at h1 ⊢; omega
          obtain rfl : r = [] := by rw [hargs] at hl1; simpa using hl1
          obtain ⟨kb, ko, rfl⟩ : ∃ b o, a1 = some ⟨b, o, none⟩ := by
            rcases hA with ⟨b, o, c, hv, -⟩ | ⟨h0, -⟩
            · injection hv with e1 e2 e3; exact ⟨b, o, e1⟩
            · rw [h0] at hl1; simp at hl1
          have hx0 : c.args[0]? = some x := by rw [hargs]; rfl
          obtain ⟨vx, tx, u0, u1, u2, -, hkb⟩ := hA.elem hx0
          obtain ⟨ax, cx, ex⟩ := tx.form
          simp only [List.cons.injEq, and_true, true_and] at ex
          subst ex
          simp only [Nat.zero_mul, Nat.add_zero] at u0 u1 u2
          have hxc : x.cnt ≤ 1048576 := by rw [hargs, Tp.cntL] at hcnt; omega
          have t0 := (HB3.out.cell (p := ⟨kb, ko, none⟩) hkb).trans u0
          have t1 := (HB3.out.cell (p := ⟨kb, ko + 1, none⟩) hkb).trans u1
          have t2 := (HB3.out.cell (p := ⟨kb, ko + 2, none⟩) hkb).trans u2
          have HE : Hid (conT s c = .mk 4 0 [] [Tp.made 0 x, .mk 6 s [] []]) := by show _ = _; unfold conT; rw [hargs]
          have HKK : okC s c = x.okT := by unfold okC; rw [hd, hargs]; simp
          have hQ := fun wz (hz : Below w.heap.size w wz) => refTType_any wz n _ x (tx.below hz) hxc
          rw [hl1] at X3 Y3 O3 HB3 t0 t1 t2 ⊢
          have x3 := X3.out.cell
          cases hox : x.okT with
          | false =>
            have HQ : Hid (∀ wz, Below w.heap.size w wz → Calls Try.prog 6 #[.agg #[.int .i64 x.k, .int .i64 x.n, .slice ax x.ks.length cx]] wz fun e w' => e = .returned (.tuple #[.agg #[.int .i64 0, .int .i64 0, .slice none 0 0, .slice none 0 0], .int .i64 1]) ∧ Below wz.heap.size wz w') := fun wz hz => (hQ wz hz).mono fun e w' ⟨h1, h2⟩ => ⟨h1.resolve_left (fun h => by have := h.1; rw [hox] at this; cases this) |>.2, h2⟩
            have HK : Hid (okC s c = false) := by show _ = _; rw [HKK, hox]
            clear hQ hA hargs hd g1 h1 hox HKK tx u0 u1 u2
            go_enter Try.func16, Try.ntmps16
            go_wp2_with (go_at_call 6; refine (HQ.out _ HB3.out).mono ?_; rintro e w4 ⟨rfl, b4⟩; have HB4 := hid (bl_tr HB3.out b4); have y4 := fun o => ((Y3.out.stays b4).stays (bl_alloc (Below.refl _ _) o)).cell; have z4 := fun o => ((Y3.out.stays b4).stays (bl_alloc (Below.refl _ _) o)).frozen; clear b4)
            refine bodyPost_ret (v := .tuple #[.agg #[.int .i64 0, .int .i64 0, .slice none 0 0, .slice none 0 0], .int .i64 1]) (by rw [results_cell2t (fn := Try.f16) (p := 4) (a := 5) (ty := 30) (by kernel_rfl)]; simp [go_sem, y4, z4]) rfl ?_
            exact ⟨.inr ⟨HK.out, rfl⟩, HSS.out _ _ _ (HSS.out _ _ _ (HSS.out _ _ _ (HSS.out _ _ _ (bl_alloc HB4.out _))))⟩
          | true =>
            obtain ⟨y, hy⟩ : ∃ y, Tp.made 0 x = y := ⟨_, rfl⟩
            rw [hy] at HE hQ
            have hz3 : (((w.alloc (.cells #[.string c.nm, .slice (some ⟨kb, ko, none⟩) 1 c1] 43)).alloc (.cells #[.int .i64 0, .int .i64 0, .slice none 0 0, .slice none 0 0] 30)).alloc (.cells #[.int .i64 6, .int .i64 s, .slice none 0 0, .slice none 0 0] 30)).heap.size = w.heap.size + 3 := by rw [size_alloc, size_alloc, size_alloc]
            have HQ : Hid (∀ wz, Below w.heap.size w wz → Calls Try.prog 6 #[.agg #[.int .i64 x.k, .int .i64 x.n, .slice ax x.ks.length cx]] wz fun e w' => (∃ a4 c4 N4, e = .returned (.tuple #[.agg #[.int .i64 y.k, .int .i64 y.n, .slice none 0 0, .slice a4 y.ks.length c4], .int .i64 0]) ∧ Tgt.TAt w' (fun b => wz.heap.size ≤ b) N4 [.int .i64 y.k, .int .i64 y.n, .slice none 0 0, .slice a4 y.ks.length c4] y) ∧ Below wz.heap.size wz w') := fun wz hz => (hQ wz hz).mono fun e w' ⟨h1, h2⟩ => ⟨match (h1.resolve_right (fun h => by have := h.1; rw [hox] at this; cases this)).2 with | ⟨a4, c4, N4, g1, g2, _⟩ => ⟨a4, c4, N4, g1, g2⟩, h2⟩
            have HK : Hid (okC s c = true) := by show _ = _; rw [HKK, hox]
            have HZ3 := hid hz3
            clear hQ hA hargs hd g1 h1 hox HKK tx u0 u1 u2 hy hz3
            go_enter Try.func16, Try.ntmps16
            go_wp2_with (go_at_call 6; refine (HQ.out _ HB3.out).mono ?_; rintro e w4 ⟨⟨a4, c4, N4, rfl, hT4⟩, b4⟩; have HB4 := hid (bl_tr HB3.out b4); have HS4 := hid b4.size; have HT4 := hid hT4; have y4 := fun o o' => (((Y3.out.stays b4).stays (bl_alloc (Below.refl _ _) o)).stays (bl_alloc (Below.refl _ _) o')).cell; have z4 := fun o o' => (((Y3.out.stays b4).stays (bl_alloc (Below.refl _ _) o)).stays (bl_alloc (Below.refl _ _) o')).frozen; have o4 := fun o => ((O3.out.stays b4).stays (bl_alloc (Below.refl _ _) o)).cell; clear b4 hT4)
            refine bodyPost_ret (v := .tuple #[.agg #[.int .i64 4, .int .i64 0, .slice none 0 0, .slice (some ⟨w4.heap.size + 1, 0, none⟩) 2 2], .int .i64 0]) (by rw [results_cell2t (fn := Try.f16) (p := 4) (a := 5) (ty := 30) (by kernel_rfl)]; simp [go_sem, y4, z4]) rfl ?_
            rw [HE.out]
            have hsz := HS4.out
            rw [HZ3.out] at hsz
            have hK : ∀ (W : World) i u, Tgt.Keeps (fun b => w.heap.size + 3 ≤ b) W (W.setCell ⟨w.heap.size + 1, i, none⟩ u) := fun W i u b o v hb hv => by have hb : w.heap.size + 3 ≤ b := hb; rw [World.cell?_of_block (w := W) (Below.heap_setCell _ _ _ _ (by show b ≠ w.heap.size + 1; omega))]; exact hv
            have hTy : Tgt.TAt ((w4.alloc (.cells #[.int .i64 y.k, .int .i64 y.n, .slice none 0 0, .slice a4 y.ks.length c4] 30)).alloc (.cells #[.int .i64 y.k, .int .i64 y.n, .slice none 0 0, .slice a4 y.ks.length c4, .int .i64 6, .int .i64 s, .slice none 0 0, .slice none 0 0] 30)) (fun b => w.heap.size + 3 ≤ b) (max N4 1) [.int .i64 y.k, .int .i64 y.n, .slice none 0 0, .slice a4 y.ks.length c4] y := (((HT4.out.move (Tgt.Keeps.refl _ _) (fun b hb => by have hb := hb; rw [HZ3.out] at hb; exact hb)).below (bl_alloc (Below.refl _ _) _)).below (bl_alloc (Below.refl _ _) _)).le (Nat.le_max_left _ _)
            have hcl : Tgt.Cells ((w4.alloc (.cells #[.int .i64 y.k, .int .i64 y.n, .slice none 0 0, .slice a4 y.ks.length c4] 30)).alloc (.cells #[.int .i64 y.k, .int .i64 y.n, .slice none 0 0, .slice a4 y.ks.length c4, .int .i64 6, .int .i64 s, .slice none 0 0, .slice none 0 0] 30)) (w4.heap.size + 1) 0 ([.int .i64 y.k, .int .i64 y.n, .slice none 0 0, .slice a4 y.ks.length c4] ++ [.int .i64 6, .int .i64 s, .slice none 0 0, .slice none 0 0]) := fun j u hu => by
              have hh := heap_alloc_at (w4.alloc (.cells #[.int .i64 y.k, .int .i64 y.n, .slice none 0 0, .slice a4 y.ks.length c4] 30)) (.cells #[.int .i64 y.k, .int .i64 y.n, .slice none 0 0, .slice a4 y.ks.length c4, .int .i64 6, .int .i64 s, .slice none 0 0, .slice none 0 0] 30)
              rw [size_alloc] at hh
              rw [Nat.zero_add, cell_at hh]
              simpa using hu
            have hfin := (tat_two (kind := 4) (x := 0) (⟨by omega, by omega⟩ : Tgt.R64 4) (⟨by omega, by omega⟩ : Tgt.R64 0) hTy ((tat_leaf 6 s (⟨by omega, by omega⟩ : Tgt.R64 6) hs64).le (Nat.le_max_right N4 1)) rfl (by show w.heap.size + 3 ≤ w4.heap.size + 1; omega) hcl).move (((hK _ 0 (.int .i64 4)).trans (hK _ 1 (.int .i64 0))).trans ((hK _ 2 (.slice none 0 0)).trans (hK _ 3 (.slice (some ⟨w4.heap.size + 1, 0, none⟩) 2 2)))) (K' := fun b => w.heap.size ≤ b) (fun b hb => by have hb : w.heap.size + 3 ≤ b := hb; show w.heap.size ≤ b; omega)
            exact ⟨.inl ⟨HK.out, none, 0, some ⟨w4.heap.size + 1, 0, none⟩, 2, _, rfl, hfin⟩, HSS.out _ _ _ (HSS.out _ _ _ (HSS.out _ _ _ (HSS.out _ _ _ (bl_alloc (bl_alloc HB4.out _) _))))⟩
end Go.Proofs.Ytigliglmejkakaa
