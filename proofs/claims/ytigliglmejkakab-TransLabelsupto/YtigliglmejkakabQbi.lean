/- A structure that came in. -/
import Derived.Test.YtigliglmejkakabQbh
namespace Go.Proofs.Ytigliglmejkakab
open Go.ChangeShapes Go.WideShapes Go.ChangeAt Go.RowKit Go.Deep
set_option linter.unusedVariables false
set_option linter.unusedSimpArgs false

variable {H : Type} {enc : TypeId × Value → H} {W : World}
abbrev Trd (enc : TypeId × Value → H) (W : World) (n : Nat) (T : TypeId) (cs : List Value) (x : DataW H × List MemPlace) : Prop := DataW.trod enc Try.prog W 0 (fun _ => true) true n T cs = some x
theorem str_size (s : ByteArray) : s.data.toList.length = s.size := Array.length_toList
set_option maxRecDepth 100000 in
theorem open_tm {m : Nat} {cs : List Value} {x : DataW H × List MemPlace} (hb : Rows.uptoBulk x.1 ≤ 1048576) (h : Trd enc W m 42 cs x) : ∃ t : Tm, ETy W m cs t ∧ t.wt ≤ Rows.uptoBulk x.1 := by
  obtain ⟨xs, n', rfl, rfl, hl, hlen, hf⟩ := DataW.trod_struct Try.underlying42 h
  rw [cells_tm] at hl
  match cs, hl, xs, hlen with
  | [c0, c1, c2, c3, c4], _, [y0, y1, y2], _ =>
    have h0 := hf 0 _ rfl
    have h1 := hf 1 _ rfl
    have h2 := hf 2 _ rfl
    replace h0 : Trd enc W n' 9 [c0] y0 := by simpa [cells_str] using h0
    replace h1 : Trd enc W n' 39 [c1, c2, c3] y1 := by simpa [cells_str, cells_ty] using h1
    replace h2 : Trd enc W n' 40 [c4] y2 := by simpa [cells_str, cells_ty, cells_ctors] using h2
    simp only [Rows.uptoBulk, Rows.uptoBulkAll, List.map_cons, List.map_nil] at hb ⊢
    obtain ⟨s0, e0, rfl, -⟩ := DataW.trod_string Try.underlying9 h0
    obtain rfl : c0 = _ := by simpa using e0
    obtain ⟨t, ht, hc⟩ := opens_all n' _ _ h1
    obtain ⟨v, l, e2, a2, b2, k2⟩ := open_ctsN (by omega) h2
    obtain rfl : c4 = v := by simpa using e2
    refine ⟨⟨s0, t, l⟩, ⟨[c1, c2, c3], c4, rfl, ht.any.le (Nat.le_succ _), ?_, k2⟩, ?_⟩
    · rcases a2 with ⟨b, o, cp, g1, g2, g3, g4, g5⟩ | h
      · exact .inl ⟨b, o, cp, g1, g2, g3, g4, fun i c hc => by obtain ⟨vs, k1, k2⟩ := g5 i c hc; exact ⟨vs, k1, k2.le (Nat.le_succ _)⟩⟩
      · exact .inr h
    · simp only [Tm.wt, Rows.uptoBulk, str_size]
      omega
set_option maxRecDepth 100000 in
theorem open_vm {m : Nat} {cs : List Value} {x : DataW H × List MemPlace} (h : Trd enc W m 91 cs x) : ∃ t : Vm, EVal W m cs t ∧ t.wt ≤ Rows.uptoBulk x.1 := by
  obtain ⟨xs, n', rfl, rfl, hl, hlen, hf⟩ := DataW.trod_struct Try.underlying91 h
  rw [cells_vm] at hl
  match cs, hl, xs, hlen with
  | [c0, c1, c2, c3, c4], _, [y0, y1], _ =>
    have h0 := hf 0 _ rfl
    have h1 := hf 1 _ rfl
    replace h0 : Trd enc W n' 9 [c0] y0 := by simpa [cells_str] using h0
    replace h1 : Trd enc W n' 89 [c1, c2, c3, c4] y1 := by simpa [cells_str, cells_sch] using h1
    obtain ⟨s0, e0, rfl, -⟩ := DataW.trod_string Try.underlying9 h0
    obtain rfl : c0 = _ := by simpa using e0
    obtain ⟨zs, n2, rfl, rfl, hl2, hlen2, hf2⟩ := DataW.trod_struct Try.underlying89 h1
    match zs, hlen2 with
    | [z0, z1], _ =>
      have g0 := hf2 0 _ rfl
      have g1 := hf2 1 _ rfl
      replace g0 : Trd enc W n2 3 [c1] z0 := by simpa [cells_int] using g0
      replace g1 : Trd enc W n2 39 [c2, c3, c4] z1 := by simpa [cells_int, cells_ty] using g1
      obtain ⟨g, eg, rfl, wg⟩ := DataW.trod_int Try.underlying3 g0
      obtain rfl : c1 = _ := by simpa using eg
      obtain ⟨t, ht, hc⟩ := opens_all n2 _ _ g1
      refine ⟨⟨s0, g, t⟩, ⟨[c2, c3, c4], rfl, wf_range wg, ht.any.le (by omega)⟩, ?_⟩
      simp only [Vm.wt, Rows.uptoBulk, Rows.uptoBulkAll, List.map_cons, List.map_nil, str_size]
      omega
set_option maxRecDepth 100000 in
theorem open_sm {m : Nat} (ih : ∀ k, k < m → ∀ (cs : List Value) (x : DataW H × List MemPlace), Rows.uptoBulk x.1 ≤ 1048576 → Trd enc W k 28 cs x → SrP W k cs (Rows.uptoBulk x.1)) {cs : List Value} {x : DataW H × List MemPlace} (hb : Rows.uptoBulk x.1 ≤ 1048576) (h : Trd enc W m 95 cs x) : ∃ y : ByteArray × Nat, (∃ r, cs = .string y.1 :: r ∧ SrP W m r y.2) ∧ y.1.size + y.2 + 2 ≤ Rows.uptoBulk x.1 := by
  obtain ⟨xs, n', rfl, rfl, hl, hlen, hf⟩ := DataW.trod_struct Try.underlying95 h
  rw [cells_sm] at hl
  match cs, hl, xs, hlen with
  | [c0, c1, c2, c3, c4, c5], _, [y0, y1], _ =>
    have h0 := hf 0 _ rfl
    have h1 := hf 1 _ rfl
    replace h0 : Trd enc W n' 9 [c0] y0 := by simpa [cells_str] using h0
    replace h1 : Trd enc W n' 28 [c1, c2, c3, c4, c5] y1 := by simpa [cells_str, cells_st] using h1
    simp only [Rows.uptoBulk, Rows.uptoBulkAll, List.map_cons, List.map_nil] at hb ⊢
    obtain ⟨s0, e0, rfl, -⟩ := DataW.trod_string Try.underlying9 h0
    obtain rfl : c0 = _ := by simpa using e0
    have hs := ih n' (Nat.lt_succ_self _) _ _ (by omega) h1
    refine ⟨(s0, Rows.uptoBulk y1.1), ⟨_, rfl, hs.le (Nat.le_succ _) (Nat.le_refl _)⟩, ?_⟩
    simp only [Rows.uptoBulk, str_size]
    omega
set_option maxRecDepth 100000 in
theorem open_fm {m : Nat} (ih : ∀ k, k < m → ∀ (cs : List Value) (x : DataW H × List MemPlace), Rows.uptoBulk x.1 ≤ 1048576 → Trd enc W k 28 cs x → SrP W k cs (Rows.uptoBulk x.1)) {cs : List Value} {x : DataW H × List MemPlace} (hb : Rows.uptoBulk x.1 ≤ 1048576) (h : Trd enc W m 102 cs x) :
    ∃ y : ByteArray × List Int × Nat × List Int × Nat, (∃ lv a rv r, cs = .string y.1 :: lv :: (a ++ rv :: r) ∧ a.length = 5 ∧ Ls W Any lv y.2.1 ∧ (∀ z ∈ y.2.1, R64 z) ∧ SrP W m a y.2.2.1 ∧ Ls W Any rv y.2.2.2.1 ∧ (∀ z ∈ y.2.2.2.1, R64 z) ∧ SrP W m r y.2.2.2.2) ∧ y.1.size + y.2.1.length + y.2.2.1 + y.2.2.2.1.length + y.2.2.2.2 + 6 ≤ Rows.uptoBulk x.1 := by
  obtain ⟨xs, n', rfl, rfl, hl, hlen, hf⟩ := DataW.trod_struct Try.underlying102 h
  rw [cells_fm] at hl
  match cs, hl, xs, hlen with
  | [c0, c1, c2, c3, c4, c5, c6, c7, c8, c9, c10, c11, c12], _, [y0, y1], _ =>
    have h0 := hf 0 _ rfl
    have h1 := hf 1 _ rfl
    replace h0 : Trd enc W n' 9 [c0] y0 := by simpa [cells_str] using h0
    replace h1 : Trd enc W n' 100 [c1, c2, c3, c4, c5, c6, c7, c8, c9, c10, c11, c12] y1 := by simpa [cells_str, cells_fun] using h1
    obtain ⟨s0, e0, rfl, -⟩ := DataW.trod_string Try.underlying9 h0
    obtain rfl : c0 = _ := by simpa using e0
    obtain ⟨zs, n2, rfl, rfl, -, hlen2, hf2⟩ := DataW.trod_struct Try.underlying100 h1
    match zs, hlen2 with
    | [z0, z1, z2], _ =>
      have g0 := hf2 0 _ rfl
      have g1 := hf2 1 _ rfl
      have g2 := hf2 2 _ rfl
      replace g0 : Trd enc W n2 76 [c1] z0 := by simpa [cells_intl] using g0
      replace g1 : Trd enc W n2 28 [c2, c3, c4, c5, c6] z1 := by simpa [cells_st] using g1
      replace g2 : Trd enc W n2 98 [c7, c8, c9, c10, c11, c12] z2 := by simpa [cells_abs] using g2
      obtain ⟨us, n3, rfl, rfl, -, hlen3, hf3⟩ := DataW.trod_struct Try.underlying98 g2
      match us, hlen3 with
      | [u0, u1], _ =>
        have k0 := hf3 0 _ rfl
        have k1 := hf3 1 _ rfl
        replace k0 : Trd enc W n3 76 [c7] u0 := by simpa [cells_intl] using k0
        replace k1 : Trd enc W n3 28 [c8, c9, c10, c11, c12] u1 := by simpa [cells_st] using k1
        simp only [Rows.uptoBulk, Rows.uptoBulkAll, List.map_cons, List.map_nil] at hb ⊢
        obtain ⟨v, l, e1, l1, l2, l3⟩ := open_ints g0
        obtain rfl : c1 = v := by simpa using e1
        obtain ⟨v', l', e2, m1, m2, m3⟩ := open_ints k0
        obtain rfl : c7 = v' := by simpa using e2
        have hs := ih _ (by omega) _ _ (by omega) g1
        have hr := ih _ (by omega) _ _ (by omega) k1
        refine ⟨(s0, l, Rows.uptoBulk z1.1, l', Rows.uptoBulk u1.1), ⟨c1, [c2, c3, c4, c5, c6], c7, [c8, c9, c10, c11, c12], rfl, rfl, l1, l2, hs.le (by omega) (Nat.le_refl _), m1, m2, hr.le (by omega) (Nat.le_refl _)⟩, ?_⟩
        simp only [Rows.uptoBulk, str_size]
        omega
set_option maxRecDepth 100000 in
theorem open_str : ∀ (m : Nat) (cs : List Value) (x : DataW H × List MemPlace), Rows.uptoBulk x.1 ≤ 1048576 → Trd enc W m 28 cs x → SrP W m cs (Rows.uptoBulk x.1) := by
  intro m
  induction m using Nat.strongRecOn with
  | _ m ih =>
    intro cs x hb h
    obtain ⟨xs, n', rfl, rfl, hl, hlen, hf⟩ := DataW.trod_struct Try.underlying28 h
    rw [cells_st] at hl
    match cs, hl, xs, hlen with
    | [c0, c1, c2, c3, c4], _, [y0, y1, y2, y3, y4], _ =>
      have h0 := hf 0 _ rfl
      have h1 := hf 1 _ rfl
      have h2 := hf 2 _ rfl
      have h3 := hf 3 _ rfl
      have h4 := hf 4 _ rfl
      replace h0 : Trd enc W n' 22 [c0] y0 := by simpa [cells_tms] using h0
      replace h1 : Trd enc W n' 23 [c1] y1 := by simpa [cells_tms, cells_vms] using h1
      replace h2 : Trd enc W n' 24 [c2] y2 := by simpa [cells_tms, cells_vms, cells_sms] using h2
      replace h3 : Trd enc W n' 25 [c3] y3 := by simpa [cells_tms, cells_vms, cells_sms, cells_fms] using h3
      replace h4 : Trd enc W n' 26 [c4] y4 := by simpa [cells_tms, cells_vms, cells_sms, cells_fms, cells_gms] using h4
      simp only [Rows.uptoBulk, Rows.uptoBulkAll, List.map_cons, List.map_nil] at hb ⊢
      obtain ⟨v0, tms, e0, r0, b0⟩ := open_rows (α := Tm) Try.underlying22 cells_tm (by decide) (ETy W n') Tm.wt h0 (fun k cs' y hk hle hy => by
        obtain ⟨t, h1, h2⟩ := open_tm (by omega) hy
        exact ⟨t, h1.le (by omega), h2⟩)
      obtain ⟨v1, vms, e1, r1, b1⟩ := open_rows (α := Vm) Try.underlying23 cells_vm (by decide) (EVal W n') Vm.wt h1 (fun k cs' y hk hle hy => by
        obtain ⟨t, h1, h2⟩ := open_vm hy
        exact ⟨t, h1.le (by omega), h2⟩)
      obtain ⟨v2, ws, e2, r2, b2⟩ := open_rows (α := ByteArray × Nat) Try.underlying24 cells_sm (by decide) (fun vs x => ∃ r, vs = .string x.1 :: r ∧ SrP W n' r x.2) (fun x => x.1.size + x.2 + 2) h2 (fun k cs' y hk hle hy => by
        obtain ⟨t, ⟨r, g1, g2⟩, h2⟩ := open_sm (fun k' hk' => ih k' (by omega)) (by omega) hy
        exact ⟨t, ⟨r, g1, g2.le (by omega) (Nat.le_refl _)⟩, h2⟩)
      obtain ⟨v3, us, e3, r3, b3⟩ := open_rows (α := ByteArray × List Int × Nat × List Int × Nat) Try.underlying25 cells_fm (by decide) (fun vs x => ∃ lv a rv r, vs = .string x.1 :: lv :: (a ++ rv :: r) ∧ a.length = 5 ∧ Ls W Any lv x.2.1 ∧ (∀ z ∈ x.2.1, R64 z) ∧ SrP W n' a x.2.2.1 ∧ Ls W Any rv x.2.2.2.1 ∧ (∀ z ∈ x.2.2.2.1, R64 z) ∧ SrP W n' r x.2.2.2.2) (fun x => x.1.size + x.2.1.length + x.2.2.1 + x.2.2.2.1.length + x.2.2.2.2 + 6) h3 (fun k cs' y hk hle hy => by
        obtain ⟨t, ⟨lv, a, rv, r, g1, g2, g3, g4, g5, g6, g7, g8⟩, h2⟩ := open_fm (fun k' hk' => ih k' (by omega)) (by omega) hy
        exact ⟨t, ⟨lv, a, rv, r, g1, g2, g3, g4, g5.le (by omega) (Nat.le_refl _), g6, g7, g8.le (by omega) (Nat.le_refl _)⟩, h2⟩)
      obtain rfl : c0 = v0 := by simpa using e0
      obtain rfl : c1 = v1 := by simpa using e1
      obtain rfl : c2 = v2 := by simpa using e2
      obtain rfl : c3 = v3 := by simpa using e3
      have hs4 : ∃ a l c, c4 = .slice a l c := by
        rcases DataW.trod_slice Try.underlying26 h4 with ⟨e, -⟩ | ⟨a, len, cap, -, -, -, -, e, -⟩
        · exact ⟨_, _, _, by simpa using e⟩
        · exact ⟨_, _, _, by simpa using e⟩
      exact ⟨c0, c1, c2, c3, c4, tms, vms, ws, us, rfl, r0, r1, r2, r3, hs4, by unfold Tm.wtL Vm.wtL; omega⟩
set_option maxRecDepth 100000 in
theorem open_strT {base : Nat} {v : Value} {d : DataW H} {p : List MemPlace} (hb : Rows.uptoBulk d ≤ 1048576) (hok : Value.okWide Try.prog W .any base 28 v) (h : DataW.Trod enc Try.prog W 0 (fun _ => true) true 28 v d p) : ∃ n vs, v = .agg vs.toArray ∧ SrP W n vs (Rows.uptoBulk d) := by
  obtain ⟨cs, rfl, hsz⟩ := okWide_struct Try.underlying28 hok
  obtain ⟨fuel, hf⟩ := h
  exact ⟨fuel, cs.toList, by simp, open_str fuel _ _ hb hf⟩
set_option maxRecDepth 100000 in
theorem open_absT {base : Nat} {v : Value} {d : DataW H} {p : List MemPlace} (hb : Rows.uptoBulk d ≤ 1048576) (hok : Value.okWide Try.prog W .any base 98 v) (h : DataW.Trod enc Try.prog W 0 (fun _ => true) true 98 v d p) : ∃ n u l vs V, v = .agg (u :: vs).toArray ∧ Ls W Any u l ∧ (∀ z ∈ l, R64 z) ∧ SrP W n vs V ∧ V + l.length + 2 ≤ Rows.uptoBulk d := by
  obtain ⟨cs, rfl, hsz⟩ := okWide_struct Try.underlying98 hok
  obtain ⟨fuel, hf⟩ := h
  obtain ⟨xs, n', rfl, hx, hl, hlen, hf⟩ := DataW.trod_struct Try.underlying98 hf
  rw [cells_abs] at hl
  obtain ⟨cl⟩ := cs
  simp only [Value.cells] at hl hf
  match cl, hl, xs, hlen with
  | [c0, c1, c2, c3, c4, c5], _, [y0, y1], _ =>
    have h0 := hf 0 _ rfl
    have h1 := hf 1 _ rfl
    replace h0 : Trd enc W n' 76 [c0] y0 := by simpa [cells_intl] using h0
    replace h1 : Trd enc W n' 28 [c1, c2, c3, c4, c5] y1 := by simpa [cells_intl, cells_st] using h1
    injection hx with hx _
    subst hx
    simp only [Rows.uptoBulk, Rows.uptoBulkAll, List.map_cons, List.map_nil] at hb ⊢
    obtain ⟨v, l, e1, l1, l2, l3⟩ := open_ints h0
    obtain rfl : c0 = v := by simpa using e1
    exact ⟨n', c0, l, [c1, c2, c3, c4, c5], _, rfl, l1, l2, open_str n' _ _ (by omega) h1, by omega⟩
end Go.Proofs.Ytigliglmejkakab
