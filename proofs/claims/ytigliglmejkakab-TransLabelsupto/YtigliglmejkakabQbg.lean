/- What any structure in memory comes to. Str, Abs: what record and hidden answer. -/
import Derived.Test.YtigliglmejkakabQbf
namespace Go.Proofs.Ytigliglmejkakab
open Go.RowKit Go.Shelf Go.Sort Go.Lib
set_option linter.unusedVariables false
set_option linter.unusedSimpArgs false

theorem set_ex : ∀ xs : List (List UInt8), ∃ ys, IsSet xs ys
  | [] => ⟨[], List.Pairwise.nil, fun x => Iff.rfl⟩
  | x :: r => by
    obtain ⟨ys, h⟩ := set_ex r
    by_cases hx : x ∈ ys
    · refine ⟨ys, h.asc, fun z => ?_⟩
      rw [h.mem, List.mem_cons]
      exact ⟨.inr, fun hz => hz.elim (fun e => e ▸ (h.mem x).1 hx) id⟩
    · refine ⟨ys.filter (fun z => decide (compareBytes z x = -1)) ++ x :: ys.filter (fun z => decide (compareBytes x z = -1)), ?_, fun z => ?_⟩
      · refine List.pairwise_append.2 ⟨h.asc.filter _, List.pairwise_cons.2 ⟨fun z hz => by simpa using (List.mem_filter.1 hz).2, h.asc.filter _⟩, fun a ha b hb => ?_⟩
        have ha := (List.mem_filter.1 ha).2
        rw [decide_eq_true_eq] at ha
        rcases List.mem_cons.1 hb with rfl | hb
        · exact ha
        · have hb := (List.mem_filter.1 hb).2
          rw [decide_eq_true_eq] at hb
          exact Nm.cmp_trans ha hb
      · rw [List.mem_append, List.mem_cons, List.mem_filter, List.mem_filter, List.mem_cons, decide_eq_true_eq, decide_eq_true_eq, ← h.mem]
        constructor
        · rintro (⟨hz, -⟩ | rfl | ⟨hz, -⟩)
          · exact .inr hz
          · exact .inl rfl
          · exact .inr hz
        · rintro (rfl | hz)
          · exact .inr (.inl rfl)
          · rcases Nm.cmp_three z x with e | e | e
            · exact .inl ⟨hz, e⟩
            · exact absurd (Nm.cmp_eq e ▸ hz) hx
            · refine .inr (.inr ⟨hz, ?_⟩)
              rw [Nm.cmp_swap, e]
theorem choose_row {α β : Type} : ∀ (l : List α) (P : Nat → α → β → Prop), (∀ i x, l[i]? = some x → ∃ y, P i x y) → ∃ m : List β, m.length = l.length ∧ ∀ i x y, l[i]? = some x → m[i]? = some y → P i x y
  | [], P, _ => ⟨[], rfl, fun i x y h => by simp at h⟩
  | a :: l, P, h => by
    obtain ⟨y, hy⟩ := h 0 a rfl
    obtain ⟨m, hm, hr⟩ := choose_row l (fun i => P (i + 1)) (fun i x hx => h (i + 1) x (by simpa using hx))
    refine ⟨y :: m, by simp [hm], fun i x z hx hz => ?_⟩
    cases i with
    | zero => simp at hx hz; subst hx; subst hz; exact hy
    | succ i => exact hr i x z (by simpa using hx) (by simpa using hz)
theorem sum_mem {α : Type} {f : α → Nat} : ∀ {l : List α} {x : α}, x ∈ l → f x ≤ (l.map f).sum
  | y :: r, x, h => by
    rw [List.map_cons, List.sum_cons]
    rcases List.mem_cons.1 h with rfl | h
    · omega
    · have := sum_mem (f := f) h; omega
theorem FB.rows2 {α : Type} {g : α → Nat} : ∀ {l : List α} {m : List (ByteArray × An)}, m.length = l.length → (∀ (i : Nat) x y, l[i]? = some x → m[i]? = some y → FB [y] (g x)) → FB m ((l.map g).sum)
  | [], m, hl, _ => by obtain rfl : m = [] := List.length_eq_zero_iff.1 (by simpa using hl); exact FB.nil
  | x :: r, [], hl, _ => by simp at hl
  | x :: r, y :: m, hl, h => by
    rw [List.map_cons, List.sum_cons]
    exact FB.app (a := [y]) (h 0 x y rfl rfl) (FB.rows2 (by simpa using hl) fun i u v hu hv => h (i + 1) u v (by simpa using hu) (by simpa using hv))
theorem len_sum {α : Type} {f : α → Nat} (hf : ∀ x, 1 ≤ f x) : ∀ l : List α, l.length ≤ (l.map f).sum
  | [] => Nat.zero_le _
  | x :: r => by rw [List.map_cons, List.sum_cons, List.length_cons]; have := hf x; have := len_sum hf r; omega
/-- What a structure at an address answers. -/
def StrAns (w : World) (pb po W : Nat) (a : An) : Prop := Bnd a.1 W ∧ ∀ wz, Below w.heap.size w wz → Calls Try.prog 7 #[.pointer (some ⟨pb, po, none⟩)] wz (AnsOf wz a)
theorem SO.str {w : World} {n pb po W : Nat} {tms : List Tm} {vms : List Vm} {sa fa : List (ByteArray × An)} (h : SO w n pb po tms vms sa fa) (hb : FB (flS tms vms sa fa) W) : StrAns w pb po W (recA (flS tms vms sa fa)) :=
  ⟨recA_bnd (set_ex _) hb, fun wz hz => record_all wz n pb po tms vms sa fa (h.below hz)⟩
theorem str_so (n : Nat) (IH : ∀ (w : World) (pb po W : Nat) (vs : List Value), W ≤ 1048576 → Cells w pb po vs → SrP w n vs W → ∃ a, StrAns w pb po W a) (w : World) (W : Nat) (hW : W ≤ 1048576) (v0 v1 v2 v3 v4 : Value) (tms : List Tm) (vms : List Vm) (ws : List (ByteArray × Nat)) (us : List (ByteArray × List Int × Nat × List Int × Nat))
    (h1 : RowAt w 5 (ETy w n) v0 tms) (h2 : RowAt w 5 (EVal w n) v1 vms) (h3 : RowAt w 6 (fun vs (x : ByteArray × Nat) => ∃ r, vs = .string x.1 :: r ∧ SrP w n r x.2) v2 ws)
    (h4 : RowAt w 13 (fun vs (x : ByteArray × List Int × Nat × List Int × Nat) => ∃ lv a rv r, vs = .string x.1 :: lv :: (a ++ rv :: r) ∧ a.length = 5 ∧ Ls w Any lv x.2.1 ∧ (∀ z ∈ x.2.1, R64 z) ∧ SrP w n a x.2.2.1 ∧ Ls w Any rv x.2.2.2.1 ∧ (∀ z ∈ x.2.2.2.1, R64 z) ∧ SrP w n r x.2.2.2.2) v3 us)
    (h6 : Tm.wtL tms + Vm.wtL vms + (ws.map fun x => x.1.size + x.2 + 2).sum + (us.map fun x => x.1.size + x.2.1.length + x.2.2.1 + x.2.2.2.1.length + x.2.2.2.2 + 6).sum ≤ W) :
    ∃ sa fa, sa.length = ws.length ∧ fa.length = us.length ∧ FB (flS tms vms sa fa) W ∧ ∀ wz pb po, Below w.heap.size w wz → Cells wz pb po [v0, v1, v2, v3, v4] → SO wz n pb po tms vms sa fa := by
  obtain ⟨ta, tc, rfl, -⟩ := h3.form
  obtain ⟨ua, uc, rfl, -⟩ := h4.form
  have hwL : ws.length ≤ (ws.map fun x => x.1.size + x.2 + 2).sum := len_sum (fun x => by omega) ws
  have huL : us.length ≤ (us.map fun x => x.1.size + x.2.1.length + x.2.2.1 + x.2.2.2.1.length + x.2.2.2.2 + 6).sum := len_sum (fun x => by omega) us
  obtain ⟨sa, hsl, hsa⟩ := choose_row (β := ByteArray × An) ws (fun i x y => y.1 = x.1 ∧ ∃ b o, ta = some ⟨b, o, none⟩ ∧ b < w.heap.size ∧ w.cell? ⟨b, o + i * 6, none⟩ = some (.string x.1) ∧ StrAns w b (o + i * 6 + 1) x.2 y.2) (fun i x hx => by
    obtain ⟨b, o, e1, e2, vs, g0, g1, r, rfl, g2⟩ := h3.elem hx
    have hm := sum_mem (f := fun x : ByteArray × Nat => x.1.size + x.2 + 2) (List.mem_of_getElem? hx)
    obtain ⟨a, ha⟩ := IH w b (o + i * 6 + 1) x.2 r (by omega) (fun j v hv => by have := g1 (j + 1) v (by simpa using hv); rw [show o + i * 6 + 1 + j = o + i * 6 + (j + 1) from by omega]; exact this) g2
    exact ⟨(x.1, a), rfl, b, o, e1, e2, g1 0 _ rfl, ha⟩)
  obtain ⟨fa, hfl, hfa⟩ := choose_row (β := ByteArray × An) us (fun i x y => y.1 = x.1 ∧ FB [y] (x.1.size + x.2.1.length + x.2.2.1 + x.2.2.2.1.length + x.2.2.2.2 + 6) ∧ ∃ b o, ua = some ⟨b, o, none⟩ ∧ b < w.heap.size ∧ w.cell? ⟨b, o + i * 13, none⟩ = some (.string x.1) ∧ ∀ wz, Below w.heap.size w wz → Calls Try.prog 51 #[.pointer (some ⟨b, o + i * 13 + 1, none⟩)] wz (AnsOf wz y.2)) (fun i x hx => by
    obtain ⟨b, o, e1, e2, vs, g0, g1, lv, av, rv, r, rfl, ga, gl, gl64, gA, gr, gr64, gR⟩ := h4.elem hx
    have hm := sum_mem (f := fun x : ByteArray × List Int × Nat × List Int × Nat => x.1.size + x.2.1.length + x.2.2.1 + x.2.2.2.1.length + x.2.2.2.2 + 6) (List.mem_of_getElem? hx)
    obtain ⟨nm, l, Wa, l', Wr⟩ := x
    simp only at hm gl gl64 gA gr gr64 gR g1 ⊢
    obtain ⟨la, lc, rfl, -⟩ := gl.form
    obtain ⟨ra, rc, rfl, -⟩ := gr.form
    have q1 : w.cell? ⟨b, o + i * 13 + 1, none⟩ = some (.slice la l.length lc) := g1 1 _ rfl
    have q2 : Cells w b (o + i * 13 + 1 + 1) av := fun j v hv => by
      have hj : j < 5 := by rw [← ga]; exact (List.getElem?_eq_some_iff.1 hv).1
      have := g1 (j + 2) v (by simpa [List.getElem?_append, ga, hj] using hv)
      rw [show o + i * 13 + 1 + 1 + j = o + i * 13 + (j + 2) from by omega]; exact this
    have q3 : w.cell? ⟨b, o + i * 13 + 1 + 6, none⟩ = some (.slice ra l'.length rc) := by
      have := g1 7 (.slice ra l'.length rc) (by simp [List.getElem?_append, ga])
      rw [show o + i * 13 + 1 + 6 = o + i * 13 + 7 from by omega]; exact this
    have q4 : Cells w b (o + i * 13 + 1 + 6 + 1) r := fun j v hv => by
      have := g1 (j + 8) v (by
        simp only [List.getElem?_cons_succ]
        rw [List.getElem?_append_right (by omega), ga, show j + 6 - 5 = j + 1 from by omega]
        simpa using hv)
      rw [show o + i * 13 + 1 + 6 + 1 + j = o + i * 13 + (j + 8) from by omega]; exact this
    obtain ⟨a, Ba, Ha⟩ := IH w b (o + i * 13 + 1 + 1) Wa av (by omega) q2 gA
    obtain ⟨a', Br, Hr⟩ := IH w b (o + i * 13 + 1 + 6 + 1) Wr r (by omega) q4 gR
    refine ⟨(nm, funA l a (hidA l' a')), rfl, funA_fb Ba (hidA_bnd Br (Nat.le_refl _)) (by omega), b, o, e1, e2, g1 0 _ rfl, fun wz hz => ?_⟩
    have hlt := World.block_lt_of_cell? _ _ q1
    refine function_of wz b (o + i * 13 + 1) la lc l ((hz.cell (p := ⟨b, o + i * 13 + 1, none⟩) hlt).trans q1) (gl.below hz) gl64 (by omega) a (hidA l' a') (fun W' hW' => Ha W' (bl_tr hz hW')) (fun W' hW' => ?_)
    refine hidden_of W' b (o + i * 13 + 1 + 6) ra rc l' (((bl_tr hz hW').cell (p := ⟨b, o + i * 13 + 1 + 6, none⟩) hlt).trans q3) (gr.below (bl_tr hz hW')) gr64 (by omega) a' (fun W2 hW2 => Hr W2 (bl_tr (bl_tr hz hW') hW2)))
  refine ⟨sa, fa, hsl, hfl, ?_, fun wz pb po hz hc => ⟨⟨v0, hc 0 v0 rfl, h1.move hz fun _ _ _ h => h.below hz⟩, ⟨v1, hc 1 v1 rfl, h2.move hz fun _ _ _ h => h.below hz⟩, ⟨ta, tc, by rw [hsl]; exact hc 2 _ rfl, fun i x hx => ?_⟩, ⟨ua, uc, by rw [hfl]; exact hc 3 _ rfl, fun i x hx => ?_⟩, by omega, ⟨?_, fun x hx => ?_⟩, by omega, by omega⟩⟩
  · unfold flS
    have f1 := ((flT_fb tms).app (vals_fb vms)).app (FB.rows2 (g := fun x : ByteArray × Nat => x.1.size + x.2 + 2) hsl fun i x y hx hy => by
      obtain ⟨e, b, o, -, -, -, k4⟩ := hsa i x y hx hy
      obtain ⟨y1, y2⟩ := y
      exact FB.sub k4.1 (by omega))
    exact (f1.app (FB.rows2 (g := fun x : ByteArray × List Int × Nat × List Int × Nat => x.1.size + x.2.1.length + x.2.2.1 + x.2.2.2.1.length + x.2.2.2.2 + 6) hfl fun i x y hx hy => (hfa i x y hx hy).2.1)).le (by omega)
  · obtain ⟨y, hy⟩ : ∃ y, ws[i]? = some y := ⟨_, List.getElem?_eq_getElem (by rw [← hsl]; exact (List.getElem?_eq_some_iff.1 hx).1)⟩
    obtain ⟨e, b, o, k1, k2, k3, k4⟩ := hsa i y x hy hx
    exact ⟨b, o, k1, Nat.lt_of_lt_of_le k2 hz.size, by rw [e]; exact (hz.cell (p := ⟨b, o + i * 6, none⟩) k2).trans k3, fun wy hy => k4.2 wy (bl_tr hz hy)⟩
  · obtain ⟨y, hy⟩ : ∃ y, us[i]? = some y := ⟨_, List.getElem?_eq_getElem (by rw [← hfl]; exact (List.getElem?_eq_some_iff.1 hx).1)⟩
    obtain ⟨e, -, b, o, k1, k2, k3, k4⟩ := hfa i y x hy hx
    exact ⟨b, o, k1, Nat.lt_of_lt_of_le k2 hz.size, by rw [e]; exact (hz.cell (p := ⟨b, o + i * 13, none⟩) k2).trans k3, fun wy hy => k4 wy (bl_tr hz hy)⟩
  · have := len_sum (f := Vm.wt) (fun x => by unfold Vm.wt; omega) vms
    unfold Vm.wtL at h6; omega
  · have := sum_mem (f := Vm.wt) hx
    have : x.t.cnt ≤ x.wt := by unfold Vm.wt; omega
    unfold Vm.wtL at h6; omega
theorem str_ex : ∀ (n : Nat) (w : World) (pb po W : Nat) (vs : List Value), W ≤ 1048576 → Cells w pb po vs → SrP w n vs W → ∃ a, StrAns w pb po W a
  | 0, w, pb, po, W, vs, _, _, h => absurd h (by rw [SrP]; exact fun h => h)
  | n + 1, w, pb, po, W, vs, hW, hc, h => by
    obtain ⟨v0, v1, v2, v3, v4, tms, vms, ws, us, rfl, h1, h2, h3, h4, h5, h6⟩ := h
    obtain ⟨sa, fa, -, -, hf, hs⟩ := str_so n (str_ex n) w W hW v0 v1 v2 v3 v4 tms vms ws us h1 h2 h3 h4 h6
    exact ⟨_, (hs w pb po (Below.refl _ _) hc).str hf⟩
/-- The answer of a structure, wherever it is laid. -/
theorem str_top {n : Nat} {w : World} {W : Nat} {vs : List Value} (hW : W ≤ 1048576) (h : SrP w n vs W) :
    ∃ v0 a1 c1 a2 c2 a3 c3 v4 m tms vms sa fa, vs = [v0, .slice a1 vms.length c1, .slice a2 sa.length c2, .slice a3 fa.length c3, v4] ∧ RowAt w 5 (ETy w m) v0 tms ∧ Tm.wtL tms ≤ 1048576 ∧ vms.length ≤ 1048576 ∧ sa.length ≤ 1048576 ∧ fa.length ≤ 1048576 ∧ Bnd (recA (flS tms vms sa fa)).1 W ∧ ∀ wz pb po, Below w.heap.size w wz → Cells wz pb po vs → Calls Try.prog 7 #[.pointer (some ⟨pb, po, none⟩)] wz (AnsOf wz (recA (flS tms vms sa fa))) := by
  match n, h with
  | n + 1, h =>
    obtain ⟨v0, v1, v2, v3, v4, tms, vms, ws, us, rfl, h1, h2, h3, h4, h5, h6⟩ := h
    obtain ⟨sa, fa, e1, e2, hf, hs⟩ := str_so n (str_ex n) w W hW v0 v1 v2 v3 v4 tms vms ws us h1 h2 h3 h4 h6
    obtain ⟨a1, c1, rfl, -⟩ := h2.form
    obtain ⟨a2, c2, rfl, -⟩ := h3.form
    obtain ⟨a3, c3, rfl, -⟩ := h4.form
    have hwL : ws.length ≤ (ws.map fun x => x.1.size + x.2 + 2).sum := len_sum (fun x => by omega) ws
    have huL : us.length ≤ (us.map fun x => x.1.size + x.2.1.length + x.2.2.1 + x.2.2.2.1.length + x.2.2.2.2 + 6).sum := len_sum (fun x => by omega) us
    have hvL := len_sum (f := Vm.wt) (fun x => by unfold Vm.wt; omega) vms
    unfold Vm.wtL at h6
    refine ⟨v0, a1, c1, a2, c2, a3, c3, v4, n, tms, vms, sa, fa, by rw [e1, e2], h1, by omega, by omega, by omega, by omega, recA_bnd (set_ex _) hf, fun wz pb po hz hc => record_all wz n pb po tms vms sa fa (hs wz pb po hz hc)⟩
end Go.Proofs.Ytigliglmejkakab

namespace Go.Proofs.Ytigliglmejkakab
open Go.RowKit Go.Shelf Go.Sort
set_option linter.unusedVariables false
set_option linter.unusedSimpArgs false

set_option maxHeartbeats 1000000 in
set_option maxRecDepth 100000 in
theorem Str_of (w : World) (v0 v1 v2 v3 v4 : Value) (a : An) (HR : ∀ wz pb po, Below w.heap.size w wz → Cells wz pb po [v0, v1, v2, v3, v4] → Calls Try.prog 7 #[.pointer (some ⟨pb, po, none⟩)] wz (AnsOf wz a)) :
    Calls Try.prog 4 #[.agg #[v0, v1, v2, v3, v4]] w (AnsOf w a) := by
  have HB2 : Hid (Below w.heap.size w ((w.alloc (.cells #[v0, v1, v2, v3, v4] 28)).alloc (.cells #[.int .i64 0, .int .i64 0, .slice none 0 0, .slice none 0 0] 32))) := bl_alloc (bl_alloc (Below.refl _ _) _) _
  have X2 : Hid (Arr ((w.alloc (.cells #[v0, v1, v2, v3, v4] 28)).alloc (.cells #[.int .i64 0, .int .i64 0, .slice none 0 0, .slice none 0 0] 32)) w.heap.size 28 [v0, v1, v2, v3, v4]) := Arr.stays ⟨heap_alloc_at _ _⟩ (bl_alloc (Below.refl _ _) _)
  have Y2 : Hid (Arr ((w.alloc (.cells #[v0, v1, v2, v3, v4] 28)).alloc (.cells #[.int .i64 0, .int .i64 0, .slice none 0 0, .slice none 0 0] 32)) (w.heap.size + 1) 32 [.int .i64 0, .int .i64 0, .slice none 0 0, .slice none 0 0]) := ⟨by have := heap_alloc_at (w.alloc (.cells #[v0, v1, v2, v3, v4] 28)) (.cells #[.int .i64 0, .int .i64 0, .slice none 0 0, .slice none 0 0] 32); rw [size_alloc] at this; exact this⟩
  have HQ := hid (HR ((w.alloc (.cells #[v0, v1, v2, v3, v4] 28)).alloc (.cells #[.int .i64 0, .int .i64 0, .slice none 0 0, .slice none 0 0] 32)) w.heap.size 0 HB2.out (fun j u hu => by have := X2.out.cell j; rw [hu] at this; rw [Nat.zero_add]; exact this))
  have HSS : Hid (∀ (W : World) i u, Below w.heap.size w W → Below w.heap.size w (W.setCell ⟨w.heap.size + 1, i, none⟩ u)) := fun W i u h => bl_set _ _ h (by show _ ≤ w.heap.size + 1; omega)
  clear HR
  go_enter Try.func4, Try.ntmps4
  go_wp2_with (go_at_call 7; refine HQ.out.mono ?_; rintro e w3 ⟨⟨p', q', p, q, N, rfl, hT⟩, b3⟩; have HB3 := hid (bl_tr HB2.out b3); have r3 := (Y2.out.stays b3).cell; have s3 := (Y2.out.stays b3).frozen; have HT := hid hT; clear b3 hT)
  refine bodyPost_ret (v := .tuple #[.agg #[.int .i64 a.1.k, .int .i64 a.1.n, .slice p' a.1.ls.length q', .slice p a.1.ks.length q], .int .i64 a.2]) (by rw [results_cell2t (fn := Try.f4) (p := 2) (a := 3) (ty := 32) (by kernel_rfl)]; simp [go_sem, r3, s3]) rfl ?_
  have hK : ∀ (W : World) i u, Tgt.Keeps (fun b => w.heap.size + 2 ≤ b) W (W.setCell ⟨w.heap.size + 1, i, none⟩ u) := fun W i u b o v hb hv => by have hb : w.heap.size + 2 ≤ b := hb; rw [World.cell?_of_block (w := W) (Below.heap_setCell _ _ _ _ (by show b ≠ w.heap.size + 1; omega))]; exact hv
  have HT2 : Tgt.TAt w3 (fun b => w.heap.size + 2 ≤ b) N [.int .i64 a.1.k, .int .i64 a.1.n, .slice p' a.1.ls.length q', .slice p a.1.ks.length q] a.1 := HT.out.move (Tgt.Keeps.refl _ _) (fun b hb => by have hb : ((w.alloc (.cells #[v0, v1, v2, v3, v4] 28)).alloc (.cells #[.int .i64 0, .int .i64 0, .slice none 0 0, .slice none 0 0] 32)).heap.size ≤ b := hb; rw [size_alloc, size_alloc] at hb; exact hb)
  exact ⟨⟨p', q', p, q, N, rfl, HT2.move (((hK _ _ _).trans (hK _ _ _)).trans ((hK _ _ _).trans (hK _ _ _))) (fun b hb => by have hb : w.heap.size + 2 ≤ b := hb; show w.heap.size ≤ b; omega)⟩, HSS.out _ _ _ (HSS.out _ _ _ (HSS.out _ _ _ (HSS.out _ _ _ HB3.out)))⟩

end Go.Proofs.Ytigliglmejkakab
