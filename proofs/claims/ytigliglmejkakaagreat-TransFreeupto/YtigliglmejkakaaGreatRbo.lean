/- A structure that came in. A structure that came in. -/
import Derived.Test.YtigliglmejkakaaGreatRbj
namespace Go.Proofs.YtigliglmejkakaaGreat
open Go.ChangeShapes Go.WideShapes Go.ChangeAt Go.RowKit Go.Deep
set_option linter.unusedVariables false
set_option linter.unusedSimpArgs false

theorem sum_rows {α β : Type} {g : α → Nat} {f : β → Nat} : ∀ {l : List β} {m : List α}, m.length = l.length → (∀ (i : Nat) y a, l[i]? = some y → m[i]? = some a → g a ≤ f y) → (m.map g).sum ≤ (l.map f).sum
  | [], m, hl, _ => by obtain rfl : m = [] := List.length_eq_zero_iff.1 (by simpa using hl); exact Nat.le_refl _
  | x :: r, [], hl, _ => by simp at hl
  | x :: r, y :: m, hl, h => by
    rw [List.map_cons, List.sum_cons, List.map_cons, List.sum_cons]
    have h1 := h 0 x y rfl rfl
    have h2 := sum_rows (l := r) (m := m) (g := g) (f := f) (by simpa using hl) fun i u v hu hv => h (i + 1) u v (by simpa using hu) (by simpa using hv)
    omega
theorem TAt.any7 {w : World} {K : Nat → Prop} {n : Nat} {vs : List Value} {t : Tp} (h : TAt w K n vs t) : TAt w Any n vs t := h.any
theorem ETy.le {w : World} {n m : Nat} {vs : List Value} {x : Tm} (h : ETy w n vs x) (hm : n ≤ m) : ETy w m vs x := by
  obtain ⟨tvs, cv, h1, h2, h3, h4⟩ := h
  refine ⟨tvs, cv, h1, h2.le hm, ?_, h4⟩
  rcases h3 with ⟨b, o, cp, g1, g2, g3, g4, g5⟩ | h
  · exact .inl ⟨b, o, cp, g1, g2, g3, g4, fun i c hc => by obtain ⟨vs, k1, k2⟩ := g5 i c hc; exact ⟨vs, k1, k2.le hm⟩⟩
  · exact .inr h
theorem EVal.le {w : World} {n m : Nat} {vs : List Value} {x : Vm} (h : EVal w n vs x) (hm : n ≤ m) : EVal w m vs x := by
  obtain ⟨tvs, h1, h2, h3⟩ := h
  exact ⟨tvs, h1, h2, h3.le hm⟩
theorem RowAt.imp {α : Type} {w : World} {size : Nat} {E E' : List Value → α → Prop} {v : Value} {l : List α} (h : RowAt w size E v l) (hE : ∀ vs x, E vs x → E' vs x) : RowAt w size E' v l := h.move (Below.refl _ _) fun vs x _ h => hE vs x h
theorem SrP.le {w : World} : ∀ {n m : Nat} {vs : List Value} {V W : Nat}, SrP w n vs V → n ≤ m → V ≤ W → SrP w m vs W
  | 0, _, _, _, _, h, _, _ => absurd h (by rw [SrP]; exact fun h => h)
  | n + 1, 0, _, _, _, h, hm, _ => by omega
  | n + 1, m + 1, vs, V, W, h, hm, hV => by
    obtain ⟨v0, v1, v2, v3, v4, tms, vms, ws, us, h0, h1, h2, h3, h4, h5, h6⟩ := h
    have hm' : n ≤ m := by omega
    exact ⟨v0, v1, v2, v3, v4, tms, vms, ws, us, h0, h1.imp fun _ _ h => h.le hm', h2.imp fun _ _ h => h.le hm', h3.imp fun _ x ⟨r, g1, g2⟩ => ⟨r, g1, SrP.le g2 hm' (Nat.le_refl _)⟩, h4.imp fun _ x ⟨lv, a, rv, r, g1, g2, g3, g4, g5, g6, g7, g8⟩ => ⟨lv, a, rv, r, g1, g2, g3, g4, SrP.le g5 hm' (Nat.le_refl _), g6, g7, SrP.le g8 hm' (Nat.le_refl _)⟩, h5, by omega⟩
variable {H : Type} {enc : TypeId × Value → H} {W : World}
theorem bulkAll_sum : ∀ l : List (DataW H × List MemPlace), Rows.uptoBulkAll (l.map (·.1)) = (l.map fun y => Rows.uptoBulk y.1).sum
  | [] => by simp [Rows.uptoBulkAll]
  | x :: r => by rw [List.map_cons, Rows.uptoBulkAll, List.map_cons, List.sum_cons, bulkAll_sum r]
set_option maxRecDepth 100000 in
/-- A list of things of one size that came in. -/
theorem open_rows {α : Type} {T elem : TypeId} {size : Nat} (hU : Tryz.prog.underlying T = some (.slice elem)) (hsz : Tryz.prog.cellsOf elem = size) (hs0 : 0 < size) (E : List Value → α → Prop) (wt : α → Nat) {fuel : Nat} {cs : List Value} {x : DataW H × List MemPlace} (h : DataW.trod enc Tryz.prog W 0 (fun _ => true) true fuel T cs = some x)
    (hE : ∀ m cs' y, m < fuel → Rows.uptoBulk y.1 ≤ Rows.uptoBulk x.1 → DataW.trod enc Tryz.prog W 0 (fun _ => true) true m elem cs' = some y → ∃ a : α, E cs' a ∧ wt a ≤ Rows.uptoBulk y.1) : ∃ v l, cs = [v] ∧ RowAt W size E v l ∧ (l.map wt).sum + 1 ≤ Rows.uptoBulk x.1 := by
  rcases DataW.trod_slice hU h with ⟨rfl, rfl⟩ | ⟨a, len, cap, elems, rest, n, rfl, rfl, rfl, -, hl, hm, hlen, hel, -, -⟩
  · exact ⟨_, [], rfl, .inr ⟨rfl, _, _, rfl⟩, by simp [Rows.uptoBulk]⟩
  · rw [hsz] at hel
    have hin : ∀ (i : Nat) y, elems[i]? = some y → Rows.uptoBulk y.1 ≤ Rows.uptoBulkAll (elems.map (·.1)) := fun i y hy => by
      rw [bulkAll_sum]; exact sum_mem (f := fun y : DataW H × List MemPlace => Rows.uptoBulk y.1) (List.mem_of_getElem? hy)
    obtain ⟨l, hll, hlr⟩ := choose_row (β := α) elems (fun i y t => ∃ cs', W.cells? 0 (a.add (i * size)) size = some cs' ∧ E cs' t ∧ wt t ≤ Rows.uptoBulk y.1) (fun i y hy => by
      have hi : i < len := by rw [← hlen]; exact (List.getElem?_eq_some_iff.1 hy).1
      have := hel i hi
      rw [hy] at this
      obtain ⟨cs', hcs, htr⟩ := Option.bind_eq_some_iff.1 this
      obtain ⟨t, h1, h2⟩ := hE n cs' y (Nat.lt_succ_self _) (by have := hin i y hy; rw [Rows.uptoBulk]; omega) htr
      exact ⟨t, cs', hcs, h1, h2⟩)
    have hsum : (l.map wt).sum ≤ (elems.map fun y => Rows.uptoBulk y.1).sum := sum_rows hll fun i y t hy ht => by obtain ⟨-, -, -, h3⟩ := hlr i y t hy ht; exact h3
    rw [← bulkAll_sum] at hsum
    refine ⟨_, l, rfl, ?_, by rw [Rows.uptoBulk]; omega⟩
    have hln : l.length = len := by omega
    rcases Nat.eq_zero_or_pos len with h0 | h0
    · subst h0
      exact .inr ⟨List.length_eq_zero_iff.1 hln, _, _, rfl⟩
    · obtain ⟨b, off, spot⟩ := a
      obtain ⟨y0, hy0⟩ : ∃ y, elems[0]? = some y := ⟨_, List.getElem?_eq_getElem (by omega)⟩
      obtain ⟨t0, ht0⟩ : ∃ t, l[0]? = some t := ⟨_, List.getElem?_eq_getElem (by omega)⟩
      obtain ⟨cs0, hcs0, -, -⟩ := hlr 0 y0 t0 hy0 ht0
      obtain ⟨-, hl0, hc0⟩ := World.cells?_some hcs0
      have c0 := hc0 0 hs0
      rw [List.getElem?_eq_getElem (by omega)] at c0
      have hspot : spot = none := by simpa [Addr.add] using World.cell?_spot c0
      subst hspot
      have hb : b < W.heap.size := by simpa [Addr.add] using World.block_lt_of_cell? _ _ c0
      refine .inl ⟨b, off, cap, by rw [hln], hb, by omega, by omega, fun i t hi => ?_⟩
      obtain ⟨y, hy⟩ : ∃ y, elems[i]? = some y := ⟨_, List.getElem?_eq_getElem (by have := (List.getElem?_eq_some_iff.1 hi).1; omega)⟩
      obtain ⟨cs', hcs, hat, -⟩ := hlr i y t hy hi
      obtain ⟨-, hcl, hce⟩ := World.cells?_some hcs
      refine ⟨cs', hcl, fun q u hu => ?_, hat⟩
      obtain ⟨hq1, hq2⟩ := List.getElem?_eq_some_iff.1 hu
      have := hce q (by omega)
      rw [addr_add14, addr_add14] at this
      rw [hu] at this
      exact this
theorem cells_tm : Tryz.prog.cellsOf 67 = 5 := by kernel_rfl
theorem cells_vm : Tryz.prog.cellsOf 222 = 5 := by kernel_rfl
theorem cells_sm : Tryz.prog.cellsOf 225 = 6 := by kernel_rfl
theorem cells_fm : Tryz.prog.cellsOf 230 = 13 := by kernel_rfl
theorem cells_fun : Tryz.prog.cellsOf 228 = 12 := by kernel_rfl
theorem cells_abs : Tryz.prog.cellsOf 51 = 6 := by kernel_rfl
theorem cells_st : Tryz.prog.cellsOf 49 = 5 := by kernel_rfl
theorem cells_tms : Tryz.prog.cellsOf 43 = 1 := by kernel_rfl
theorem cells_vms : Tryz.prog.cellsOf 44 = 1 := by kernel_rfl
theorem cells_sms : Tryz.prog.cellsOf 45 = 1 := by kernel_rfl
theorem cells_fms : Tryz.prog.cellsOf 46 = 1 := by kernel_rfl
theorem cells_gms : Tryz.prog.cellsOf 47 = 1 := by kernel_rfl
theorem cells_intl : Tryz.prog.cellsOf 38 = 1 := by kernel_rfl
theorem open_ints {fuel : Nat} {cs : List Value} {x : DataW H × List MemPlace} (h : DataW.trod enc Tryz.prog W 0 (fun _ => true) true fuel 38 cs = some x) : ∃ v l, cs = [v] ∧ Ls W Any v l ∧ (∀ z ∈ l, R64 z) ∧ l.length + 1 ≤ Rows.uptoBulk x.1 := by
  obtain ⟨v, l, e, h1, h2⟩ := open_rows (α := Int) Tryz.underlying38 cells_int (by decide) (fun vs z => vs = [.int .i64 z] ∧ R64 z) (fun _ => 1) h (fun m cs' y _ _ hy => by
    obtain ⟨z, hz, rfl, hw⟩ := DataW.trod_int Tryz.underlying3 hy
    exact ⟨z, ⟨hz, wf_range hw⟩, by simp [Rows.uptoBulk]⟩)
  have h2' : l.length + 1 ≤ Rows.uptoBulk x.1 := by
    have : (l.map fun _ => 1).sum = l.length := by clear h1 h2; induction l with | nil => rfl | cons a l ih => rw [List.map_cons, List.sum_cons, ih, List.length_cons]; omega
    omega
  refine ⟨v, l, e, ?_, fun z hz => ?_, h2'⟩
  · rcases h1 with ⟨b, o, cp, g1, g2, g3, g4, g5⟩ | h
    · exact .inl ⟨b, o, cp, g1, trivial, g3, g4, fun i z hz => by obtain ⟨vs, -, k1, rfl, -⟩ := g5 i z hz; simpa using k1 0 _ rfl⟩
    · exact .inr h
  · obtain ⟨i, hi⟩ := List.mem_iff_getElem?.1 hz
    obtain ⟨a, c, rfl, -⟩ := h1.form
    obtain ⟨b, o, -, -, vs, -, -, k⟩ := h1.elem hi
    exact k.2
set_option maxRecDepth 100000 in
theorem open_ctsN {fuel : Nat} {cs : List Value} {x : DataW H × List MemPlace} (hb : Rows.uptoBulk x.1 ≤ 1048576) (h : DataW.trod enc Tryz.prog W 0 (fun _ => true) true fuel 63 cs = some x) : ∃ v l, cs = [v] ∧ CtL W Any fuel v l ∧ Ct.wt l + 1 ≤ Rows.uptoBulk x.1 ∧ ∀ c ∈ l, c.nm.size ≤ 1048576 := by
  obtain ⟨v, l, e, h1, h2⟩ := open_rows (α := Ct) Tryz.underlying63 cells_ctor (by decide) (fun vs z => CtAt W Any fuel vs z ∧ z.nm.size ≤ 1048576) Ct.wt1 h (fun m cs' y hm hle hy => by
    obtain ⟨xs, n', rfl, rfl, hl, hlen, hf⟩ := DataW.trod_struct Tryz.underlying125 hy
    rw [cells_ctor] at hl
    match cs', hl, xs, hlen with
    | [c0, c1], _, [y0, y1], _ =>
      have h0 := hf 0 _ rfl
      have h1 := hf 1 _ rfl
      replace h0 : DataW.trod enc Tryz.prog W 0 (fun _ => true) true n' 9 [c0] = some y0 := by simpa [cells_str] using h0
      replace h1 : DataW.trod enc Tryz.prog W 0 (fun _ => true) true n' 22 [c1] = some y1 := by simpa [cells_str, cells_tys] using h1
      obtain ⟨s0, e0, rfl, -⟩ := DataW.trod_string Tryz.underlying9 h0
      obtain rfl : c0 = _ := by simpa using e0
      obtain ⟨v1, l1, e1, a1, b1⟩ := open_row (fun m hm => opens_all m) h1
      obtain rfl : c1 = _ := by simpa using e1
      have hs : s0.data.toList.length = s0.size := Array.length_toList
      simp only [Rows.uptoBulk, Rows.uptoBulkAll, List.map_cons, List.map_nil] at hle ⊢
      refine ⟨⟨s0, l1⟩, ⟨⟨_, rfl, a1.any.le (by omega)⟩, ?_⟩, ?_⟩
      · show s0.size ≤ _; omega
      · show Tp.cntL l1 + 1 ≤ _; omega)
  refine ⟨v, l, e, ?_, h2, fun c hc => ?_⟩
  · rcases h1 with ⟨b, o, cp, g1, g2, g3, g4, g5⟩ | h
    · exact .inl ⟨b, o, cp, g1, trivial, g3, g4, fun i z hz => by obtain ⟨vs, -, k1, k2, -⟩ := g5 i z hz; exact ⟨vs, k1, k2⟩⟩
    · exact .inr h
  · obtain ⟨i, hi⟩ := List.mem_iff_getElem?.1 hc
    obtain ⟨a, c', rfl, -⟩ := h1.form
    obtain ⟨b, o, -, -, vs, -, -, k⟩ := h1.elem hi
    exact k.2
end Go.Proofs.YtigliglmejkakaaGreat

namespace Go.Proofs.YtigliglmejkakaaGreat
open Go.ChangeShapes Go.WideShapes Go.ChangeAt Go.RowKit Go.Deep
set_option linter.unusedVariables false
set_option linter.unusedSimpArgs false

variable {H : Type} {enc : TypeId × Value → H} {W : World}
abbrev Trd (enc : TypeId × Value → H) (W : World) (n : Nat) (T : TypeId) (cs : List Value) (x : DataW H × List MemPlace) : Prop := DataW.trod enc Tryz.prog W 0 (fun _ => true) true n T cs = some x
theorem str_size (s : ByteArray) : s.data.toList.length = s.size := Array.length_toList
set_option maxRecDepth 100000 in
theorem open_tm {m : Nat} {cs : List Value} {x : DataW H × List MemPlace} (hb : Rows.uptoBulk x.1 ≤ 1048576) (h : Trd enc W m 67 cs x) : ∃ t : Tm, ETy W m cs t ∧ t.wt ≤ Rows.uptoBulk x.1 := by
  obtain ⟨xs, n', rfl, rfl, hl, hlen, hf⟩ := DataW.trod_struct Tryz.underlying67 h
  rw [cells_tm] at hl
  match cs, hl, xs, hlen with
  | [c0, c1, c2, c3, c4], _, [y0, y1, y2], _ =>
    have h0 := hf 0 _ rfl
    have h1 := hf 1 _ rfl
    have h2 := hf 2 _ rfl
    replace h0 : Trd enc W n' 9 [c0] y0 := by simpa [cells_str] using h0
    replace h1 : Trd enc W n' 24 [c1, c2, c3] y1 := by simpa [cells_str, cells_ty] using h1
    replace h2 : Trd enc W n' 63 [c4] y2 := by simpa [cells_str, cells_ty, cells_ctors] using h2
    simp only [Rows.uptoBulk, Rows.uptoBulkAll, List.map_cons, List.map_nil] at hb ⊢
    obtain ⟨s0, e0, rfl, -⟩ := DataW.trod_string Tryz.underlying9 h0
    obtain rfl : c0 = _ := by simpa using e0
    obtain ⟨t, ht, hc⟩ := opens_all n' _ _ h1
    obtain ⟨v, l, e2, a2, b2, k2⟩ := open_ctsN (by omega) h2
    obtain rfl : c4 = v := by simpa using e2
    refine ⟨⟨s0, t, l⟩, ⟨[c1, c2, c3], c4, rfl, ht.any.le (Nat.le_succ _), ?_, k2⟩, ?_⟩
    · rcases a2 with ⟨b, o, cp, g1, g2, g3, g4, g5⟩ | h
      · exact .inl ⟨b, o, cp, g1, g2, g3, g4, fun i c hc => by obtain ⟨vs, k1, k2⟩ := g5 i c hc; exact ⟨vs, k1, k2.le (Nat.le_succ _)⟩⟩
      · exact .inr h
    · simp only [Tm.wt, Rows.uptoBulk, str_size]
      omega
set_option maxRecDepth 100000 in
theorem open_vm {m : Nat} {cs : List Value} {x : DataW H × List MemPlace} (h : Trd enc W m 222 cs x) : ∃ t : Vm, EVal W m cs t ∧ t.wt ≤ Rows.uptoBulk x.1 := by
  obtain ⟨xs, n', rfl, rfl, hl, hlen, hf⟩ := DataW.trod_struct Tryz.underlying222 h
  rw [cells_vm] at hl
  match cs, hl, xs, hlen with
  | [c0, c1, c2, c3, c4], _, [y0, y1], _ =>
    have h0 := hf 0 _ rfl
    have h1 := hf 1 _ rfl
    replace h0 : Trd enc W n' 9 [c0] y0 := by simpa [cells_str] using h0
    replace h1 : Trd enc W n' 42 [c1, c2, c3, c4] y1 := by simpa [cells_str, cells_sch] using h1
    obtain ⟨s0, e0, rfl, -⟩ := DataW.trod_string Tryz.underlying9 h0
    obtain rfl : c0 = _ := by simpa using e0
    obtain ⟨zs, n2, rfl, rfl, hl2, hlen2, hf2⟩ := DataW.trod_struct Tryz.underlying42 h1
    match zs, hlen2 with
    | [z0, z1], _ =>
      have g0 := hf2 0 _ rfl
      have g1 := hf2 1 _ rfl
      replace g0 : Trd enc W n2 3 [c1] z0 := by simpa [cells_int] using g0
      replace g1 : Trd enc W n2 24 [c2, c3, c4] z1 := by simpa [cells_int, cells_ty] using g1
      obtain ⟨g, eg, rfl, wg⟩ := DataW.trod_int Tryz.underlying3 g0
      obtain rfl : c1 = _ := by simpa using eg
      obtain ⟨t, ht, hc⟩ := opens_all n2 _ _ g1
      refine ⟨⟨s0, g, t⟩, ⟨[c2, c3, c4], rfl, wf_range wg, ht.any.le (by omega)⟩, ?_⟩
      simp only [Vm.wt, Rows.uptoBulk, Rows.uptoBulkAll, List.map_cons, List.map_nil, str_size]
      omega
set_option maxRecDepth 100000 in
theorem open_sm {m : Nat} (ih : ∀ k, k < m → ∀ (cs : List Value) (x : DataW H × List MemPlace), Rows.uptoBulk x.1 ≤ 1048576 → Trd enc W k 49 cs x → SrP W k cs (Rows.uptoBulk x.1)) {cs : List Value} {x : DataW H × List MemPlace} (hb : Rows.uptoBulk x.1 ≤ 1048576) (h : Trd enc W m 225 cs x) : ∃ y : ByteArray × Nat, (∃ r, cs = .string y.1 :: r ∧ SrP W m r y.2) ∧ y.1.size + y.2 + 2 ≤ Rows.uptoBulk x.1 := by
  obtain ⟨xs, n', rfl, rfl, hl, hlen, hf⟩ := DataW.trod_struct Tryz.underlying225 h
  rw [cells_sm] at hl
  match cs, hl, xs, hlen with
  | [c0, c1, c2, c3, c4, c5], _, [y0, y1], _ =>
    have h0 := hf 0 _ rfl
    have h1 := hf 1 _ rfl
    replace h0 : Trd enc W n' 9 [c0] y0 := by simpa [cells_str] using h0
    replace h1 : Trd enc W n' 49 [c1, c2, c3, c4, c5] y1 := by simpa [cells_str, cells_st] using h1
    simp only [Rows.uptoBulk, Rows.uptoBulkAll, List.map_cons, List.map_nil] at hb ⊢
    obtain ⟨s0, e0, rfl, -⟩ := DataW.trod_string Tryz.underlying9 h0
    obtain rfl : c0 = _ := by simpa using e0
    have hs := ih n' (Nat.lt_succ_self _) _ _ (by omega) h1
    refine ⟨(s0, Rows.uptoBulk y1.1), ⟨_, rfl, hs.le (Nat.le_succ _) (Nat.le_refl _)⟩, ?_⟩
    simp only [Rows.uptoBulk, str_size]
    omega
set_option maxRecDepth 100000 in
theorem open_fm {m : Nat} (ih : ∀ k, k < m → ∀ (cs : List Value) (x : DataW H × List MemPlace), Rows.uptoBulk x.1 ≤ 1048576 → Trd enc W k 49 cs x → SrP W k cs (Rows.uptoBulk x.1)) {cs : List Value} {x : DataW H × List MemPlace} (hb : Rows.uptoBulk x.1 ≤ 1048576) (h : Trd enc W m 230 cs x) :
    ∃ y : ByteArray × List Int × Nat × List Int × Nat, (∃ lv a rv r, cs = .string y.1 :: lv :: (a ++ rv :: r) ∧ a.length = 5 ∧ Ls W Any lv y.2.1 ∧ (∀ z ∈ y.2.1, R64 z) ∧ SrP W m a y.2.2.1 ∧ Ls W Any rv y.2.2.2.1 ∧ (∀ z ∈ y.2.2.2.1, R64 z) ∧ SrP W m r y.2.2.2.2) ∧ y.1.size + y.2.1.length + y.2.2.1 + y.2.2.2.1.length + y.2.2.2.2 + 6 ≤ Rows.uptoBulk x.1 := by
  obtain ⟨xs, n', rfl, rfl, hl, hlen, hf⟩ := DataW.trod_struct Tryz.underlying230 h
  rw [cells_fm] at hl
  match cs, hl, xs, hlen with
  | [c0, c1, c2, c3, c4, c5, c6, c7, c8, c9, c10, c11, c12], _, [y0, y1], _ =>
    have h0 := hf 0 _ rfl
    have h1 := hf 1 _ rfl
    replace h0 : Trd enc W n' 9 [c0] y0 := by simpa [cells_str] using h0
    replace h1 : Trd enc W n' 228 [c1, c2, c3, c4, c5, c6, c7, c8, c9, c10, c11, c12] y1 := by simpa [cells_str, cells_fun] using h1
    obtain ⟨s0, e0, rfl, -⟩ := DataW.trod_string Tryz.underlying9 h0
    obtain rfl : c0 = _ := by simpa using e0
    obtain ⟨zs, n2, rfl, rfl, -, hlen2, hf2⟩ := DataW.trod_struct Tryz.underlying228 h1
    match zs, hlen2 with
    | [z0, z1, z2], _ =>
      have g0 := hf2 0 _ rfl
      have g1 := hf2 1 _ rfl
      have g2 := hf2 2 _ rfl
      replace g0 : Trd enc W n2 38 [c1] z0 := by simpa [cells_intl] using g0
      replace g1 : Trd enc W n2 49 [c2, c3, c4, c5, c6] z1 := by simpa [cells_st] using g1
      replace g2 : Trd enc W n2 51 [c7, c8, c9, c10, c11, c12] z2 := by simpa [cells_abs] using g2
      obtain ⟨us, n3, rfl, rfl, -, hlen3, hf3⟩ := DataW.trod_struct Tryz.underlying51 g2
      match us, hlen3 with
      | [u0, u1], _ =>
        have k0 := hf3 0 _ rfl
        have k1 := hf3 1 _ rfl
        replace k0 : Trd enc W n3 38 [c7] u0 := by simpa [cells_intl] using k0
        replace k1 : Trd enc W n3 49 [c8, c9, c10, c11, c12] u1 := by simpa [cells_st] using k1
        simp only [Rows.uptoBulk, Rows.uptoBulkAll, List.map_cons, List.map_nil] at hb ⊢
        obtain ⟨v, l, e1, l1, l2, l3⟩ := open_ints g0
        obtain rfl : c1 = v := by simpa using e1
        obtain ⟨v', l', e2, m1, m2, m3⟩ := open_ints k0
        obtain rfl : c7 = v' := by simpa using e2
        have hs := ih _ (by omega) _ _ (by omega) g1
        have hr := ih _ (by omega) _ _ (by omega) k1
        refine ⟨(s0, l, Rows.uptoBulk z1.1, l', Rows.uptoBulk u1.1), ⟨c1, [c2, c3, c4, c5, c6], c7, [c8, c9, c10, c11, c12], rfl, rfl, l1, l2, hs.le (by omega) (Nat.le_refl _), m1, m2, hr.le (by omega) (Nat.le_refl _)⟩, ?_⟩
        simp only [Rows.uptoBulk, str_size]
        omega
set_option maxRecDepth 100000 in
theorem open_str : ∀ (m : Nat) (cs : List Value) (x : DataW H × List MemPlace), Rows.uptoBulk x.1 ≤ 1048576 → Trd enc W m 49 cs x → SrP W m cs (Rows.uptoBulk x.1) := by
  intro m
  induction m using Nat.strongRecOn with
  | _ m ih =>
    intro cs x hb h
    obtain ⟨xs, n', rfl, rfl, hl, hlen, hf⟩ := DataW.trod_struct Tryz.underlying49 h
    rw [cells_st] at hl
    match cs, hl, xs, hlen with
    | [c0, c1, c2, c3, c4], _, [y0, y1, y2, y3, y4], _ =>
      have h0 := hf 0 _ rfl
      have h1 := hf 1 _ rfl
      have h2 := hf 2 _ rfl
      have h3 := hf 3 _ rfl
      have h4 := hf 4 _ rfl
      replace h0 : Trd enc W n' 43 [c0] y0 := by simpa [cells_tms] using h0
      replace h1 : Trd enc W n' 44 [c1] y1 := by simpa [cells_tms, cells_vms] using h1
      replace h2 : Trd enc W n' 45 [c2] y2 := by simpa [cells_tms, cells_vms, cells_sms] using h2
      replace h3 : Trd enc W n' 46 [c3] y3 := by simpa [cells_tms, cells_vms, cells_sms, cells_fms] using h3
      replace h4 : Trd enc W n' 47 [c4] y4 := by simpa [cells_tms, cells_vms, cells_sms, cells_fms, cells_gms] using h4
      simp only [Rows.uptoBulk, Rows.uptoBulkAll, List.map_cons, List.map_nil] at hb ⊢
      obtain ⟨v0, tms, e0, r0, b0⟩ := open_rows (α := Tm) Tryz.underlying43 cells_tm (by decide) (ETy W n') Tm.wt h0 (fun k cs' y hk hle hy => by
        obtain ⟨t, h1, h2⟩ := open_tm (by omega) hy
        exact ⟨t, h1.le (by omega), h2⟩)
      obtain ⟨v1, vms, e1, r1, b1⟩ := open_rows (α := Vm) Tryz.underlying44 cells_vm (by decide) (EVal W n') Vm.wt h1 (fun k cs' y hk hle hy => by
        obtain ⟨t, h1, h2⟩ := open_vm hy
        exact ⟨t, h1.le (by omega), h2⟩)
      obtain ⟨v2, ws, e2, r2, b2⟩ := open_rows (α := ByteArray × Nat) Tryz.underlying45 cells_sm (by decide) (fun vs x => ∃ r, vs = .string x.1 :: r ∧ SrP W n' r x.2) (fun x => x.1.size + x.2 + 2) h2 (fun k cs' y hk hle hy => by
        obtain ⟨t, ⟨r, g1, g2⟩, h2⟩ := open_sm (fun k' hk' => ih k' (by omega)) (by omega) hy
        exact ⟨t, ⟨r, g1, g2.le (by omega) (Nat.le_refl _)⟩, h2⟩)
      obtain ⟨v3, us, e3, r3, b3⟩ := open_rows (α := ByteArray × List Int × Nat × List Int × Nat) Tryz.underlying46 cells_fm (by decide) (fun vs x => ∃ lv a rv r, vs = .string x.1 :: lv :: (a ++ rv :: r) ∧ a.length = 5 ∧ Ls W Any lv x.2.1 ∧ (∀ z ∈ x.2.1, R64 z) ∧ SrP W n' a x.2.2.1 ∧ Ls W Any rv x.2.2.2.1 ∧ (∀ z ∈ x.2.2.2.1, R64 z) ∧ SrP W n' r x.2.2.2.2) (fun x => x.1.size + x.2.1.length + x.2.2.1 + x.2.2.2.1.length + x.2.2.2.2 + 6) h3 (fun k cs' y hk hle hy => by
        obtain ⟨t, ⟨lv, a, rv, r, g1, g2, g3, g4, g5, g6, g7, g8⟩, h2⟩ := open_fm (fun k' hk' => ih k' (by omega)) (by omega) hy
        exact ⟨t, ⟨lv, a, rv, r, g1, g2, g3, g4, g5.le (by omega) (Nat.le_refl _), g6, g7, g8.le (by omega) (Nat.le_refl _)⟩, h2⟩)
      obtain rfl : c0 = v0 := by simpa using e0
      obtain rfl : c1 = v1 := by simpa using e1
      obtain rfl : c2 = v2 := by simpa using e2
      obtain rfl : c3 = v3 := by simpa using e3
      have hs4 : ∃ a l c, c4 = .slice a l c := by
        rcases DataW.trod_slice Tryz.underlying47 h4 with ⟨e, -⟩ | ⟨a, len, cap, -, -, -, -, e, -⟩
        · exact ⟨_, _, _, by simpa using e⟩
        · exact ⟨_, _, _, by simpa using e⟩
      exact ⟨c0, c1, c2, c3, c4, tms, vms, ws, us, rfl, r0, r1, r2, r3, hs4, by unfold Tm.wtL Vm.wtL; omega⟩
set_option maxRecDepth 100000 in
theorem open_strT {base : Nat} {v : Value} {d : DataW H} {p : List MemPlace} (hb : Rows.uptoBulk d ≤ 1048576) (hok : Value.okWide Tryz.prog W .any base 49 v) (h : DataW.Trod enc Tryz.prog W 0 (fun _ => true) true 49 v d p) : ∃ n vs, v = .agg vs.toArray ∧ SrP W n vs (Rows.uptoBulk d) := by
  obtain ⟨cs, rfl, hsz⟩ := okWide_struct Tryz.underlying49 hok
  obtain ⟨fuel, hf⟩ := h
  exact ⟨fuel, cs.toList, by simp, open_str fuel _ _ hb hf⟩
set_option maxRecDepth 100000 in
theorem open_absT {base : Nat} {v : Value} {d : DataW H} {p : List MemPlace} (hb : Rows.uptoBulk d ≤ 1048576) (hok : Value.okWide Tryz.prog W .any base 51 v) (h : DataW.Trod enc Tryz.prog W 0 (fun _ => true) true 51 v d p) : ∃ n u l vs V, v = .agg (u :: vs).toArray ∧ Ls W Any u l ∧ (∀ z ∈ l, R64 z) ∧ SrP W n vs V ∧ V + l.length + 2 ≤ Rows.uptoBulk d := by
  obtain ⟨cs, rfl, hsz⟩ := okWide_struct Tryz.underlying51 hok
  obtain ⟨fuel, hf⟩ := h
  obtain ⟨xs, n', rfl, hx, hl, hlen, hf⟩ := DataW.trod_struct Tryz.underlying51 hf
  rw [cells_abs] at hl
  obtain ⟨cl⟩ := cs
  simp only [Value.cells] at hl hf
  match cl, hl, xs, hlen with
  | [c0, c1, c2, c3, c4, c5], _, [y0, y1], _ =>
    have h0 := hf 0 _ rfl
    have h1 := hf 1 _ rfl
    replace h0 : Trd enc W n' 38 [c0] y0 := by simpa [cells_intl] using h0
    replace h1 : Trd enc W n' 49 [c1, c2, c3, c4, c5] y1 := by simpa [cells_intl, cells_st] using h1
    injection hx with hx _
    subst hx
    simp only [Rows.uptoBulk, Rows.uptoBulkAll, List.map_cons, List.map_nil] at hb ⊢
    obtain ⟨v, l, e1, l1, l2, l3⟩ := open_ints h0
    obtain rfl : c0 = v := by simpa using e1
    exact ⟨n', c0, l, [c1, c2, c3, c4, c5], _, rfl, l1, l2, open_str n' _ _ (by omega) h1, by omega⟩
end Go.Proofs.YtigliglmejkakaaGreat
