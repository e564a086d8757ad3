/- TransLabels: the walk. A structure that came in. -/
import Derived.Test.YtigliglmejkakabQbg
namespace Go.Proofs.Ytigliglmejkakab
open Go.RowKit Go.Shelf Go.Sort
set_option linter.unusedVariables false
set_option linter.unusedSimpArgs false

def tmN (x : Tm) : Nat := if x.cs.length = 0 then 0 else x.cs.length + 1
theorem flT1_lenN (x : Tm) : (flT1 x).length = tmN x := by
  unfold flT1 tmN
  split
  · rfl
  · rw [List.length_cons, List.length_map]
theorem flT_lenN : ∀ l : List Tm, (flT l).length = (l.map tmN).sum
  | [] => rfl
  | x :: r => by rw [flT, List.length_append, flT1_lenN, flT_lenN r, List.map_cons, List.sum_cons]
theorem tmN_wt (x : Tm) : tmN x ≤ x.wt := by
  have := Ct.wt_le x.cs
  unfold tmN Tm.wt
  split <;> omega
theorem tmN_sum : ∀ l : List Tm, (l.map tmN).sum ≤ Tm.wtL l
  | [] => Nat.le_refl _
  | x :: r => by
    have := tmN_sum r
    have := tmN_wt x
    unfold Tm.wtL at *
    rw [List.map_cons, List.sum_cons, List.map_cons, List.sum_cons]
    omega
theorem asc_nodup {ys : List (List UInt8)} (h : ys.Pairwise fun a b => Lib.compareBytes a b = -1) : ys.Nodup := h.imp fun {a b} hab e => by rw [e, Nm.cmp_refl] at hab; cases hab
theorem nodup_le {α : Type} [DecidableEq α] : ∀ {ys xs : List α}, ys.Nodup → (∀ x ∈ ys, x ∈ xs) → ys.length ≤ xs.length
  | [], _, _, _ => Nat.zero_le _
  | y :: r, xs, hn, h => by
    have h1 := List.nodup_cons.1 hn
    have := nodup_le (ys := r) (xs := xs.erase y) h1.2 fun x hx => by
      have hne : x ≠ y := fun e => h1.1 (e ▸ hx)
      exact (List.mem_erase_of_ne hne).2 (h x (List.mem_cons_of_mem _ hx))
    have h3 := List.length_erase_of_mem (h y List.mem_cons_self)
    have h4 : 0 < xs.length := List.length_pos_of_mem (h y List.mem_cons_self)
    rw [List.length_cons]
    omega
/-- What comes without an error: a record with its labels in order. -/
theorem recA_ok {fl : List (ByteArray × An)} (h : (recA fl).2 = 0) : ∃ ls ks, recA fl = (.mk 7 0 ls ks, 0) ∧ ls.length = fl.length ∧ ks.length = fl.length ∧ ∀ (i : Nat) x y, ls[i]? = some x → ls[i + 1]? = some y → Lib.compareBytes x.data.toList y.data.toList = -1 := by
  have hset := setOf_is _ (set_ex (labsOf fl))
  unfold recA at h ⊢
  generalize setOf (labsOf fl) = ys at hset h ⊢
  split at h
  · cases h
  split at h
  · rename_i h1 h2
    exact absurd h h2
  rename_i h1 h2
  rw [if_neg h1, if_neg h2]
  have hle : ys.length ≤ (labsOf fl).length := nodup_le (asc_nodup hset.asc) fun x hx => (hset.mem x).1 hx
  have hll : (labsOf fl).length = fl.length := by unfold labsOf bytesL; rw [List.length_map, List.length_map]
  refine ⟨_, _, rfl, ?_, ?_, fun i x y hx hy => ?_⟩
  · unfold toBA; rw [List.length_map]; omega
  · rw [kidsOf_len]; omega
  · unfold toBA at hx hy
    rw [List.getElem?_map] at hx hy
    obtain ⟨a, ha, rfl⟩ := Option.map_eq_some_iff.1 hx
    obtain ⟨b, hb, rfl⟩ := Option.map_eq_some_iff.1 hy
    have := hset.ascA i (i + 1) a b (Nat.lt_succ_self i) ha hb
    simpa using this

set_option maxHeartbeats 4000000 in
set_option maxRecDepth 100000 in
theorem labels14_bad (w : World) (v0 v1 v2 v3 v4 : Value) (a : An) (ha : (a.2 != 0) = true) (HS : ∀ wz, Below w.heap.size w wz → Calls Try.prog 4 #[.agg #[v0, v1, v2, v3, v4]] wz (AnsOf wz a)) :
    Calls Try.prog 3 #[.agg #[v0, v1, v2, v3, v4]] w fun e w' => e = .returned (.bool true) ∧ Below w.heap.size w w' := by
  have HB1 : Hid (Below w.heap.size w (w.alloc (.cells #[v0, v1, v2, v3, v4] 28))) := bl_alloc (Below.refl _ _) _
  have HQ := hid (HS _ HB1.out)
  have HAL := hid (fun wz => alive14 wz)
  clear HS
  go_enter Try.func3, Try.ntmps3
  go_wp2_with (first | (go_at_call 4; refine HQ.out.mono ?_; rintro e w3 ⟨⟨p', q', p, q, N, rfl, hT⟩, b3⟩; have HB3 := hid (bl_alloc (bl_tr HB1.out b3) (.cells #[.int .i64 a.1.k, .int .i64 a.1.n, .slice p' a.1.ls.length q', .slice p a.1.ks.length q] 32)); clear b3 hT) | (go_at_call 5; refine (HAL.out _).mono ?_; rintro e w5 ⟨rfl, b5⟩; have HB5 := hid (bl_tr HB3.out b5); clear b5))
  go_ret
  exact ⟨rfl, HB5.out⟩

set_option maxHeartbeats 4000000 in
set_option maxRecDepth 100000 in
theorem labels14_good (w : World) (m : Nat) (a0 a1 a2 a3 : Option Addr) (c0 c1 c2 c3 : Nat) (v4 : Value) (tms : List Tm) (nv ns nf : Nat) (hR : RowAt w 5 (ETy w m) (.slice a0 tms.length c0) tms) (ht : Tm.wtL tms ≤ 1048576) (hv : nv ≤ 1048576) (hs : ns ≤ 1048576) (hf : nf ≤ 1048576) (ls : List ByteArray) (ks : List Tgt.Tt)
    (hN : ls.length = nv + ns + nf + (tms.map tmN).sum) (hK : ks.length = ls.length) (hA : ∀ (i : Nat) x y, ls[i]? = some x → ls[i + 1]? = some y → Lib.compareBytes x.data.toList y.data.toList = -1)
    (HS : ∀ wz, Below w.heap.size w wz → Calls Try.prog 4 #[.agg #[.slice a0 tms.length c0, .slice a1 nv c1, .slice a2 ns c2, .slice a3 nf c3, v4]] wz (AnsOf wz (.mk 7 0 ls ks, 0))) :
    Calls Try.prog 3 #[.agg #[.slice a0 tms.length c0, .slice a1 nv c1, .slice a2 ns c2, .slice a3 nf c3, v4]] w fun e w' => e = .returned (.bool true) ∧ Below w.heap.size w w' := by
  have HB1 : Hid (Below w.heap.size w (w.alloc (.cells #[.slice a0 tms.length c0, .slice a1 nv c1, .slice a2 ns c2, .slice a3 nf c3, v4] 28))) := bl_alloc (Below.refl _ _) _
  have Y1 : Hid (Arr (w.alloc (.cells #[.slice a0 tms.length c0, .slice a1 nv c1, .slice a2 ns c2, .slice a3 nf c3, v4] 28)) w.heap.size 28 [.slice a0 tms.length c0, .slice a1 nv c1, .slice a2 ns c2, .slice a3 nf c3, v4]) := ⟨heap_alloc_at _ _⟩
  have HAL := hid (fun wz => alive14 wz)
  have hsum := tmN_sum tms
  have hmax : tms.length ≤ 1048576 := by
    have := len_sum (f := Tm.wt) (fun x => by unfold Tm.wt; omega) tms
    unfold Tm.wtL at ht
    omega
  obtain ⟨NN, hNN⟩ : ∃ NN, ls.length = NN := ⟨_, rfl⟩
  have hNb : NN ≤ 4194304 := by omega
  have HN : Hid (NN = nv + ns + nf + (tms.map tmN).sum) := by show _ = _; omega
  have HQ : Hid (Calls Try.prog 4 #[.agg #[.slice a0 tms.length c0, .slice a1 nv c1, .slice a2 ns c2, .slice a3 nf c3, v4]] (w.alloc (.cells #[.slice a0 tms.length c0, .slice a1 nv c1, .slice a2 ns c2, .slice a3 nf c3, v4] 28)) fun e w' => (∃ p' q' p q, e = .returned (.tuple #[.agg #[.int .i64 7, .int .i64 0, .slice p' NN q', .slice p NN q], .int .i64 0]) ∧ Tgt.Sl w' Any (.slice p' NN q') ls) ∧ Below (w.alloc (.cells #[.slice a0 tms.length c0, .slice a1 nv c1, .slice a2 ns c2, .slice a3 nf c3, v4] 28)).heap.size (w.alloc (.cells #[.slice a0 tms.length c0, .slice a1 nv c1, .slice a2 ns c2, .slice a3 nf c3, v4] 28)) w') := by
    refine Calls.mono (HS _ HB1.out) ?_
    rintro e w3 ⟨⟨p', q', p, q, N, rfl, hT⟩, b3⟩
    refine ⟨⟨p', q', p, q, ?_, ?_⟩, b3⟩
    · show _ = Ending.returned (.tuple #[.agg #[.int .i64 7, .int .i64 0, .slice p' NN q', .slice p NN q], .int .i64 0])
      rw [← hNN]
      have e1 : (Tgt.Tt.mk 7 0 ls ks).ks.length = ls.length := hK
      rw [e1]
      rfl
    · match N, hT with
      | N + 1, hT =>
        obtain ⟨u, v, hv, -, -, hS, -⟩ := hT
        injection hv with _ hv
        injection hv with _ hv
        injection hv with hv _
        rw [← hNN]
        have hS : Tgt.Sl w3 _ u ls := hS
        rw [← hv] at hS
        exact hS.move (Tgt.Keeps.refl _ _) (fun _ _ => trivial)
  have HLN := hid hNN
  have HRR := hid hR
  have HAA := hid hA
  clear HS hR hA hK hN hNN hsum ht
  go_enter Try.func3, Try.ntmps3
  go_wp2_with (go_at_call 4; refine HQ.out.mono ?_; rintro e w3 ⟨⟨p', q', p, q, rfl, hT⟩, b3⟩; have b4 := bl_alloc b3 (.cells #[.int .i64 7, .int .i64 0, .slice p' NN q', .slice p NN q] 32); have HB4 := hid (bl_tr HB1.out b4); have Y4 := hid (Y1.out.stays b4); have X4 : Hid (Arr (w3.alloc (.cells #[.int .i64 7, .int .i64 0, .slice p' NN q', .slice p NN q] 32)) w3.heap.size 32 [.int .i64 7, .int .i64 0, .slice p' NN q', .slice p NN q]) := ⟨heap_alloc_at _ _⟩; have HT := hid (hT.move (Tgt.Keeps.of_below (bl_alloc (Below.refl _ _) (.cells #[.int .i64 7, .int .i64 0, .slice p' NN q', .slice p NN q] 32))) (fun _ h => h)); have y4 := Y4.out.cell; have x4 := X4.out.cell; clear b3 b4 hT HQ)
  go_loopw [5, 6] (fun v5 v6 wr => ∃ (m' k : Nat), v5 = .int .i64 m' ∧ v6 = .int .i64 k ∧ k ≤ tms.length ∧ Hid (m' + ((tms.drop k).map tmN).sum = NN) ∧ wr = (w3.alloc (.cells #[.int .i64 7, .int .i64 0, .slice p' NN q', .slice p NN q] 32))) (fun _ v6 _ => tms.length - (intOf v6).toNat)
  case atStart => exact ⟨nv + ns + nf, 0, by go_num, rfl, Nat.zero_le _, (by show _ = _; rw [List.drop_zero]; have := HN.out; omega), rfl⟩
  case round =>
    obtain ⟨m', k, rfl, rfl, hk, hH, rfl⟩ := hrel
    by_cases hlt : k < tms.length
    · obtain ⟨x, hx⟩ : ∃ x, tms[k]? = some x := ⟨_, List.getElem?_eq_getElem hlt⟩
      obtain ⟨b, o, rfl, hb, vs, g0, g1, tvs, cv, rfl, h2, h3, -⟩ := HRR.out.elem hx
      obtain ⟨ta, tc, rfl⟩ := h2.form
      obtain ⟨ca, cc, rfl, -⟩ := h3.form
      have c4 := (HB4.out.cell (p := ⟨b, o + k * 5 + 4, none⟩) hb).trans (g1 4 _ rfl)
      have HX : Hid (m' + (tmN x + ((tms.drop (k + 1)).map tmN).sum) = NN) := by
        show _ = _
        have h := hH.out
        obtain ⟨hk1, hk2⟩ := List.getElem?_eq_some_iff.1 hx
        rw [List.drop_eq_getElem_cons hk1, hk2, List.map_cons, List.sum_cons] at h
        exact h
      have hml : m' + tmN x ≤ 4194304 := by have := HX.out; omega
      clear hH g1 h2 h3 hx HRR
      by_cases hc : x.cs.length = 0
      · have HT0 : Hid (tmN x = 0) := by show _ = _; unfold tmN; rw [if_pos hc]
        rw [hc] at c4
        clear hc
        go_wp2
        go_roundw
        case rel => exact ⟨m', k + 1, by go_num, by go_num, hlt, (by show _ = _; have := HX.out; have := HT0.out; omega), trivial⟩
        case measure => simp [intOf]; omega
      · have HT1 : Hid (tmN x = x.cs.length + 1) := by show _ = _; unfold tmN; rw [if_neg hc]
        obtain ⟨C, hC⟩ : ∃ C, x.cs.length = C := ⟨_, rfl⟩
        rw [hC] at c4 HT1 hc
        have hCb : C ≤ 4194304 := by have := HT1.out; omega
        have hCp : 0 < C := Nat.pos_of_ne_zero hc
        have hmC : m' + C + 1 ≤ 4194304 := by have := HT1.out; omega
        have hCd : decide (0 < C) = true := decide_eq_true hCp
        have hCi : (0 : Int) < (C : Int) := by omega
        clear hC hc
        go_wp2
        go_roundw
        case rel => exact ⟨m' + C + 1, k + 1, by go_num, by go_num, hlt, (by show _ = _; have := HX.out; have := HT1.out; omega), trivial⟩
        case measure => simp [intOf]; omega
    · obtain rfl : k = tms.length := by omega
      obtain rfl : NN = m' := by
        have := hH.out
        rw [List.drop_length] at this
        simpa using this.symm
      clear hlt hk hH HRR HN
      go_wp2
      go_loopw [7] (fun v7 wr => ∃ (k : Nat), v7 = .int .i64 k ∧ 1 ≤ k ∧ (k ≤ NN ∨ k = 1) ∧ ∃ nn, wr = (w3.alloc (.cells #[.int .i64 7, .int .i64 0, .slice p' NN q', .slice p NN q] 32)).drewN nn) (fun v7 _ => NN - (intOf v7).toNat)
      case atStart => exact ⟨1, rfl, Nat.le_refl _, .inr rfl, 0, rfl⟩
      case round =>
        obtain ⟨k, rfl, hk1, hk2, nn, rfl⟩ := hrel
        by_cases hlt : k < NN
        · obtain ⟨b, o, c', hv', -, -, -, hl⟩ := HT.out.resolve_right (fun h => by have := HLN.out; rw [h.1] at this; simp at this; omega)
          injection hv' with e1 e2 e3
          obtain ⟨y, hy⟩ : ∃ y, ls[k]? = some y := ⟨_, List.getElem?_eq_getElem (by rw [HLN.out]; exact hlt)⟩
          obtain ⟨r, hr⟩ : ∃ r, r = k - 1 := ⟨_, rfl⟩
          obtain ⟨y', hy'⟩ : ∃ y', ls[r]? = some y' := ⟨_, List.getElem?_eq_getElem (by rw [HLN.out]; omega)⟩
          have HC : Hid (Lib.compareBytes y'.data.toList y.data.toList = -1) := HAA.out r y' y hy' (by rw [show r + 1 = k from by omega]; exact hy)
          have dW : ((w3.alloc (.cells #[.int .i64 7, .int .i64 0, .slice p' NN q', .slice p NN q] 32)).drewN nn).cell? ⟨b, o + k, none⟩ = some (.string y) := hl k y hy
          have dW' : ((w3.alloc (.cells #[.int .i64 7, .int .i64 0, .slice p' NN q', .slice p NN q] 32)).drewN nn).cell? ⟨b, o + r, none⟩ = some (.string y') := hl r y' hy'
          have xW : ∀ j, ((w3.alloc (.cells #[.int .i64 7, .int .i64 0, .slice p' NN q', .slice p NN q] 32)).drewN nn).cell? ⟨w3.heap.size, j, none⟩ = [.int .i64 7, .int .i64 0, .slice p' NN q', .slice p NN q][j]? := x4
          have hrn : r < NN := by omega
          have hkp : 0 < k := by omega
          have hkd : decide (0 < k) = true := decide_eq_true hkp
          have hki : (0 : Int) < (k : Int) := by omega
          have hw1 : IntKind.i64.wrap ((k : Int) - 1) = (r : Int) := by simp [IntKind.wrap, IntKind.bits, IntKind.signed]; omega
          have hcc : Lib.compareBytes y'.data.toList y.data.toList = -1 := HC.out
          have HCM : Hid (∀ wz, Calls Try.prog 6 #[.string y', .string y] wz fun e w' => e = .returned (.int .i64 (-1)) ∧ w' = wz) := fun wz => by have := cmp_any y' y wz; rw [hcc] at this; exact this
          subst e1
          clear hr hcc HC hl hy hy' e2 e3 x4 y4
          obtain ⟨W, hW⟩ : ∃ W, W = (w3.alloc (.cells #[.int .i64 7, .int .i64 0, .slice (some ⟨b, o, none⟩) NN q', .slice p NN q] 32)).drewN nn := ⟨_, rfl⟩
          rw [← hW] at dW dW' xW ⊢
          have HW : Hid (W = (w3.alloc (.cells #[.int .i64 7, .int .i64 0, .slice (some ⟨b, o, none⟩) NN q', .slice p NN q] 32)).drewN nn) := hW
          clear hW
          go_wp2
          go_big_quiet (first | (go_at_call 6; exact Calls.quiet_of_same (HCM.out _)))
          go_wp2
          go_roundw
          case rel => exact ⟨k + 1, by go_num, by omega, .inl hlt, nn + nq, by rw [HW.out, World.drewN_drewN]⟩
          case measure => simp [intOf]; omega
        · have xW : ∀ j, ((w3.alloc (.cells #[.int .i64 7, .int .i64 0, .slice p' NN q', .slice p NN q] 32)).drewN nn).cell? ⟨w3.heap.size, j, none⟩ = [.int .i64 7, .int .i64 0, .slice p' NN q', .slice p NN q][j]? := x4
          have HBz : Hid (RowKit.Below w.heap.size w ((w3.alloc (.cells #[.int .i64 7, .int .i64 0, .slice p' NN q', .slice p NN q] 32)).drewN nn)) := bl_tr HB4.out (bl_drewN _ _)
          clear x4 y4
          obtain ⟨W, hW⟩ : ∃ W, W = (w3.alloc (.cells #[.int .i64 7, .int .i64 0, .slice p' NN q', .slice p NN q] 32)).drewN nn := ⟨_, rfl⟩
          rw [← hW] at xW HBz ⊢
          clear hW
          go_wp2_with (go_at_call 5; refine (HAL.out _).mono ?_; rintro e w5 ⟨rfl, b5⟩; have HB5 := hid (bl_tr HBz.out b5); clear b5)
          go_ret
          exact ⟨rfl, HB5.out⟩
theorem labels14_walk (w : World) (n : Nat) (vs : List Value) (Wt : Nat) (hW : Wt ≤ 1048576) (h : SrP w n vs Wt) :
    Calls Try.prog 3 #[.agg vs.toArray] w fun e w' => e = .returned (.bool true) ∧ RowKit.Below w.heap.size w w' := by
  obtain ⟨v0, a1, c1, a2, c2, a3, c3, v4, m, tms, vms, sa, fa, rfl, h1, h2, h3, h4, h5, h6, h7⟩ := str_top hW h
  obtain ⟨a0, c0, rfl, -⟩ := h1.form
  have HS : ∀ wz, RowKit.Below w.heap.size w wz → Calls Try.prog 4 #[.agg #[.slice a0 tms.length c0, .slice a1 vms.length c1, .slice a2 sa.length c2, .slice a3 fa.length c3, v4]] wz (AnsOf wz (recA (flS tms vms sa fa))) := fun wz hz => Str_of wz _ _ _ _ _ _ fun wy pb po hy hc => h7 wy pb po (bl_tr hz hy) hc
  by_cases ha : (recA (flS tms vms sa fa)).2 = 0
  · obtain ⟨ls, ks, e, hl, hk, hA⟩ := recA_ok ha
    rw [e] at HS
    have hfl := flS_len (tms := tms) (vms := vms) (sa := sa) (fa := fa)
    rw [flT_lenN] at hfl
    exact labels14_good w m a0 a1 a2 a3 c0 c1 c2 c3 v4 tms vms.length sa.length fa.length h1 h2 h3 h4 h5 ls ks (by omega) (by omega) hA HS
  · exact labels14_bad w _ _ _ _ _ _ (by simpa using ha) HS
end Go.Proofs.Ytigliglmejkakab

namespace Go.Proofs.Ytigliglmejkakab
open Go.ChangeShapes Go.WideShapes Go.ChangeAt Go.RowKit Go.Deep
set_option linter.unusedVariables false
set_option linter.unusedSimpArgs false

theorem sum_rows {α β : Type} {g : α → Nat} {f : β → Nat} : ∀ {l : List β} {m : List α}, m.length = l.length → (∀ (i : Nat) y a, l[i]? = some y → m[i]? = some a → g a ≤ f y) → (m.map g).sum ≤ (l.map f).sum
  | [], m, hl, _ => by obtain rfl : m = [] := List.length_eq_zero_iff.1 (by simpa using hl); exact Nat.le_refl _
  | x :: r, [], hl, _ => by simp at hl
  | x :: r, y :: m, hl, h => by
    rw [List.map_cons, List.sum_cons, List.map_cons, List.sum_cons]
    have h1 := h 0 x y rfl rfl
    have h2 := sum_rows (l := r) (m := m) (g := g) (f := f) (by simpa using hl) fun i u v hu hv => h (i + 1) u v (by simpa using hu) (by simpa using hv)
    omega
theorem TAt.any7 {w : World} {K : Nat → Prop} {n : Nat} {vs : List Value} {t : Tp} (h : TAt w K n vs t) : TAt w Any n vs t := h.any
theorem ETy.le {w : World} {n m : Nat} {vs : List Value} {x : Tm} (h : ETy w n vs x) (hm : n ≤ m) : ETy w m vs x := by
  obtain ⟨tvs, cv, h1, h2, h3, h4⟩ := h
  refine ⟨tvs, cv, h1, h2.le hm, ?_, h4⟩
  rcases h3 with ⟨b, o, cp, g1, g2, g3, g4, g5⟩ | h
  · exact .inl ⟨b, o, cp, g1, g2, g3, g4, fun i c hc => by obtain ⟨vs, k1, k2⟩ := g5 i c hc; exact ⟨vs, k1, k2.le hm⟩⟩
  · exact .inr h
theorem EVal.le {w : World} {n m : Nat} {vs : List Value} {x : Vm} (h : EVal w n vs x) (hm : n ≤ m) : EVal w m vs x := by
  obtain ⟨tvs, h1, h2, h3⟩ := h
  exact ⟨tvs, h1, h2, h3.le hm⟩
theorem RowAt.imp {α : Type} {w : World} {size : Nat} {E E' : List Value → α → Prop} {v : Value} {l : List α} (h : RowAt w size E v l) (hE : ∀ vs x, E vs x → E' vs x) : RowAt w size E' v l := h.move (Below.refl _ _) fun vs x _ h => hE vs x h
theorem SrP.le {w : World} : ∀ {n m : Nat} {vs : List Value} {V W : Nat}, SrP w n vs V → n ≤ m → V ≤ W → SrP w m vs W
  | 0, _, _, _, _, h, _, _ => absurd h (by rw [SrP]; exact fun h => h)
  | n + 1, 0, _, _, _, h, hm, _ => by omega
  | n + 1, m + 1, vs, V, W, h, hm, hV => by
    obtain ⟨v0, v1, v2, v3, v4, tms, vms, ws, us, h0, h1, h2, h3, h4, h5, h6⟩ := h
    have hm' : n ≤ m := by omega
    exact ⟨v0, v1, v2, v3, v4, tms, vms, ws, us, h0, h1.imp fun _ _ h => h.le hm', h2.imp fun _ _ h => h.le hm', h3.imp fun _ x ⟨r, g1, g2⟩ => ⟨r, g1, SrP.le g2 hm' (Nat.le_refl _)⟩, h4.imp fun _ x ⟨lv, a, rv, r, g1, g2, g3, g4, g5, g6, g7, g8⟩ => ⟨lv, a, rv, r, g1, g2, g3, g4, SrP.le g5 hm' (Nat.le_refl _), g6, g7, SrP.le g8 hm' (Nat.le_refl _)⟩, h5, by omega⟩
variable {H : Type} {enc : TypeId × Value → H} {W : World}
theorem bulkAll_sum : ∀ l : List (DataW H × List MemPlace), Rows.uptoBulkAll (l.map (·.1)) = (l.map fun y => Rows.uptoBulk y.1).sum
  | [] => by simp [Rows.uptoBulkAll]
  | x :: r => by rw [List.map_cons, Rows.uptoBulkAll, List.map_cons, List.sum_cons, bulkAll_sum r]
set_option maxRecDepth 100000 in
/-- A list of things of one size that came in. -/
theorem open_rows {α : Type} {T elem : TypeId} {size : Nat} (hU : Try.prog.underlying T = some (.slice elem)) (hsz : Try.prog.cellsOf elem = size) (hs0 : 0 < size) (E : List Value → α → Prop) (wt : α → Nat) {fuel : Nat} {cs : List Value} {x : DataW H × List MemPlace} (h : DataW.trod enc Try.prog W 0 (fun _ => true) true fuel T cs = some x)
    (hE : ∀ m cs' y, m < fuel → Rows.uptoBulk y.1 ≤ Rows.uptoBulk x.1 → DataW.trod enc Try.prog W 0 (fun _ => true) true m elem cs' = some y → ∃ a : α, E cs' a ∧ wt a ≤ Rows.uptoBulk y.1) : ∃ v l, cs = [v] ∧ RowAt W size E v l ∧ (l.map wt).sum + 1 ≤ Rows.uptoBulk x.1 := by
  rcases DataW.trod_slice hU h with ⟨rfl, rfl⟩ | ⟨a, len, cap, elems, rest, n, rfl, rfl, rfl, -, hl, hm, hlen, hel, -, -⟩
  · exact ⟨_, [], rfl, .inr ⟨rfl, _, _, rfl⟩, by simp [Rows.uptoBulk]⟩
  · rw [hsz] at hel
    have hin : ∀ (i : Nat) y, elems[i]? = some y → Rows.uptoBulk y.1 ≤ Rows.uptoBulkAll (elems.map (·.1)) := fun i y hy => by
      rw [bulkAll_sum]; exact sum_mem (f := fun y : DataW H × List MemPlace => Rows.uptoBulk y.1) (List.mem_of_getElem? hy)
    obtain ⟨l, hll, hlr⟩ := choose_row (β := α) elems (fun i y t => ∃ cs', W.cells? 0 (a.add (i * size)) size = some cs' ∧ E cs' t ∧ wt t ≤ Rows.uptoBulk y.1) (fun i y hy => by
      have hi : i < len := by rw [← hlen]; exact (List.getElem?_eq_some_iff.1 hy).1
      have := hel i hi
      rw [hy] at this
      obtain ⟨cs', hcs, htr⟩ := Option.bind_eq_some_iff.1 this
      obtain ⟨t, h1, h2⟩ := hE n cs' y (Nat.lt_succ_self _) (by have := hin i y hy; rw [Rows.uptoBulk]; omega) htr
      exact ⟨t, cs', hcs, h1, h2⟩)
    have hsum : (l.map wt).sum ≤ (elems.map fun y => Rows.uptoBulk y.1).sum := sum_rows hll fun i y t hy ht => by obtain ⟨-, -, -, h3⟩ := hlr i y t hy ht; exact h3
    rw [← bulkAll_sum] at hsum
    refine ⟨_, l, rfl, ?_, by rw [Rows.uptoBulk]; omega⟩
    have hln : l.length = len := by omega
    rcases Nat.eq_zero_or_pos len with h0 | h0
    · subst h0
      exact .inr ⟨List.length_eq_zero_iff.1 hln, _, _, rfl⟩
    · obtain ⟨b, off, spot⟩ := a
      obtain ⟨y0, hy0⟩ : ∃ y, elems[0]? = some y := ⟨_, List.getElem?_eq_getElem (by omega)⟩
      obtain ⟨t0, ht0⟩ : ∃ t, l[0]? = some t := ⟨_, List.getElem?_eq_getElem (by omega)⟩
      obtain ⟨cs0, hcs0, -, -⟩ := hlr 0 y0 t0 hy0 ht0
      obtain ⟨-, hl0, hc0⟩ := World.cells?_some hcs0
      have c0 := hc0 0 hs0
      rw [List.getElem?_eq_getElem (by omega)] at c0
      have hspot : spot = none := by simpa [Addr.add] using World.cell?_spot c0
      subst hspot
      have hb : b < W.heap.size := by simpa [Addr.add] using World.block_lt_of_cell? _ _ c0
      refine .inl ⟨b, off, cap, by rw [hln], hb, by omega, by omega, fun i t hi => ?_⟩
      obtain ⟨y, hy⟩ : ∃ y, elems[i]? = some y := ⟨_, List.getElem?_eq_getElem (by have := (List.getElem?_eq_some_iff.1 hi).1; omega)⟩
      obtain ⟨cs', hcs, hat, -⟩ := hlr i y t hy hi
      obtain ⟨-, hcl, hce⟩ := World.cells?_some hcs
      refine ⟨cs', hcl, fun q u hu => ?_, hat⟩
      obtain ⟨hq1, hq2⟩ := List.getElem?_eq_some_iff.1 hu
      have := hce q (by omega)
      rw [addr_add14, addr_add14] at this
      rw [hu] at this
      exact this
theorem cells_tm : Try.prog.cellsOf 42 = 5 := by kernel_rfl
theorem cells_vm : Try.prog.cellsOf 91 = 5 := by kernel_rfl
theorem cells_sm : Try.prog.cellsOf 95 = 6 := by kernel_rfl
theorem cells_fm : Try.prog.cellsOf 102 = 13 := by kernel_rfl
theorem cells_fun : Try.prog.cellsOf 100 = 12 := by kernel_rfl
theorem cells_abs : Try.prog.cellsOf 98 = 6 := by kernel_rfl
theorem cells_st : Try.prog.cellsOf 28 = 5 := by kernel_rfl
theorem cells_tms : Try.prog.cellsOf 22 = 1 := by kernel_rfl
theorem cells_vms : Try.prog.cellsOf 23 = 1 := by kernel_rfl
theorem cells_sms : Try.prog.cellsOf 24 = 1 := by kernel_rfl
theorem cells_fms : Try.prog.cellsOf 25 = 1 := by kernel_rfl
theorem cells_gms : Try.prog.cellsOf 26 = 1 := by kernel_rfl
theorem cells_intl : Try.prog.cellsOf 76 = 1 := by kernel_rfl
theorem open_ints {fuel : Nat} {cs : List Value} {x : DataW H × List MemPlace} (h : DataW.trod enc Try.prog W 0 (fun _ => true) true fuel 76 cs = some x) : ∃ v l, cs = [v] ∧ Ls W Any v l ∧ (∀ z ∈ l, R64 z) ∧ l.length + 1 ≤ Rows.uptoBulk x.1 := by
  obtain ⟨v, l, e, h1, h2⟩ := open_rows (α := Int) Try.underlying76 cells_int (by decide) (fun vs z => vs = [.int .i64 z] ∧ R64 z) (fun _ => 1) h (fun m cs' y _ _ hy => by
    obtain ⟨z, hz, rfl, hw⟩ := DataW.trod_int Try.underlying3 hy
    exact ⟨z, ⟨hz, wf_range hw⟩, by simp [Rows.uptoBulk]⟩)
  have h2' : l.length + 1 ≤ Rows.uptoBulk x.1 := by
    have : (l.map fun _ => 1).sum = l.length := by clear h1 h2; induction l with | nil => rfl | cons a l ih => rw [List.map_cons, List.sum_cons, ih, List.length_cons]; omega
    omega
  refine ⟨v, l, e, ?_, fun z hz => ?_, h2'⟩
  · rcases h1 with ⟨b, o, cp, g1, g2, g3, g4, g5⟩ | h
    · exact .inl ⟨b, o, cp, g1, trivial, g3, g4, fun i z hz => by obtain ⟨vs, -, k1, rfl, -⟩ := g5 i z hz; simpa using k1 0 _ rfl⟩
    · exact .inr h
  · obtain ⟨i, hi⟩ := List.mem_iff_getElem?.1 hz
    obtain ⟨a, c, rfl, -⟩ := h1.form
    obtain ⟨b, o, -, -, vs, -, -, k⟩ := h1.elem hi
    exact k.2
set_option maxRecDepth 100000 in
theorem open_ctsN {fuel : Nat} {cs : List Value} {x : DataW H × List MemPlace} (hb : Rows.uptoBulk x.1 ≤ 1048576) (h : DataW.trod enc Try.prog W 0 (fun _ => true) true fuel 40 cs = some x) : ∃ v l, cs = [v] ∧ CtL W Any fuel v l ∧ Ct.wt l + 1 ≤ Rows.uptoBulk x.1 ∧ ∀ c ∈ l, c.nm.size ≤ 1048576 := by
  obtain ⟨v, l, e, h1, h2⟩ := open_rows (α := Ct) Try.underlying40 cells_ctor (by decide) (fun vs z => CtAt W Any fuel vs z ∧ z.nm.size ≤ 1048576) Ct.wt1 h (fun m cs' y hm hle hy => by
    obtain ⟨xs, n', rfl, rfl, hl, hlen, hf⟩ := DataW.trod_struct Try.underlying64 hy
    rw [cells_ctor] at hl
    match cs', hl, xs, hlen with
    | [c0, c1], _, [y0, y1], _ =>
      have h0 := hf 0 _ rfl
      have h1 := hf 1 _ rfl
      replace h0 : DataW.trod enc Try.prog W 0 (fun _ => true) true n' 9 [c0] = some y0 := by simpa [cells_str] using h0
      replace h1 : DataW.trod enc Try.prog W 0 (fun _ => true) true n' 37 [c1] = some y1 := by simpa [cells_str, cells_tys] using h1
      obtain ⟨s0, e0, rfl, -⟩ := DataW.trod_string Try.underlying9 h0
      obtain rfl : c0 = _ := by simpa using e0
      obtain ⟨v1, l1, e1, a1, b1⟩ := open_row (fun m hm => opens_all m) h1
      obtain rfl : c1 = _ := by simpa using e1
      have hs : s0.data.toList.length = s0.size := Array.length_toList
      simp only [Rows.uptoBulk, Rows.uptoBulkAll, List.map_cons, List.map_nil] at hle ⊢
      refine ⟨⟨s0, l1⟩, ⟨⟨_, rfl, a1.any.le (by omega)⟩, ?_⟩, ?_⟩
      · show s0.size ≤ _; omega
      · show Tp.cntL l1 + 1 ≤ _; omega)
  refine ⟨v, l, e, ?_, h2, fun c hc => ?_⟩
  · rcases h1 with ⟨b, o, cp, g1, g2, g3, g4, g5⟩ | h
    · exact .inl ⟨b, o, cp, g1, trivial, g3, g4, fun i z hz => by obtain ⟨vs, -, k1, k2, -⟩ := g5 i z hz; exact ⟨vs, k1, k2⟩⟩
    · exact .inr h
  · obtain ⟨i, hi⟩ := List.mem_iff_getElem?.1 hc
    obtain ⟨a, c', rfl, -⟩ := h1.form
    obtain ⟨b, o, -, -, vs, -, -, k⟩ := h1.elem hi
    exact k.2
end Go.Proofs.Ytigliglmejkakab
