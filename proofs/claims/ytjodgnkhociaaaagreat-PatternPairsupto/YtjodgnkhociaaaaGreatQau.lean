/- renewed, fresh: a type in new memory, with what is made of each of its Kids. size and has, of types without metas. -/
import Derived.Laws.MakeOwn
import Derived.Test.YtjodgnkhociaaaaGreatQad
import Derived.Test.YtjodgnkhociaaaaGreatQaq
namespace Go.Proofs.YtjodgnkhociaaaaGreat
open Go.RowKit
set_option linter.unusedVariables false
set_option linter.unusedSimpArgs false

abbrev idf : Int → Int → Int × Int := fun k n => (k, n)
mutual
theorem Tp.ren_idf : ∀ t : Tp, Tp.ren idf t = t
  | .mk k n ks => by rw [Tp.ren_eq]; simp only [Tp.ks, Tp.k, Tp.n]; rw [Tp.map_idf ks]
theorem Tp.map_idf : ∀ l : List Tp, l.map (Tp.ren idf) = l
  | [] => rfl
  | x :: r => by rw [List.map_cons, Tp.ren_idf x, Tp.map_idf r]
end
theorem un_idf {W : World} {K : Nat → Prop} {n : Nat} {vs : List Value} {t : Tp} (h : TAt W K n vs (Tp.ren idf t)) : TAt W K n vs t := by rw [Tp.ren_idf] at h; exact h
/-- No meta stands in it. -/
def NoM (t : Tp) : Prop := Tp.spares [7] t = true
theorem sparesL_mem {b : List Int} : ∀ {l : List Tp}, Tp.sparesL b l = true → ∀ x ∈ l, Tp.spares b x = true
  | y :: r, h, x, hx => by
    rw [Tp.sparesL, Bool.and_eq_true] at h
    rcases List.mem_cons.1 hx with rfl | h2
    · exact h.1
    · exact sparesL_mem h.2 x h2
theorem NoM.kid {t x : Tp} (h : NoM t) (hx : x ∈ t.ks) : NoM x := by
  obtain ⟨k, n, ks⟩ := t
  unfold NoM at h
  rw [Tp.spares, Bool.and_eq_true] at h
  exact sparesL_mem h.2 x hx
theorem NoM.kind {t : Tp} (h : NoM t) : t.k ≠ 7 := by
  obtain ⟨k, n, ks⟩ := t
  unfold NoM at h
  rw [Tp.spares, Bool.and_eq_true] at h
  intro e
  simp only [Tp.k] at e
  simp [e] at h
/-- A function that makes the same type in new memory, of types without metas. -/
def CopyOf (g : FuncId) (fs bs : Array Value) (w : World) (n : Nat) : Prop := ∀ (wz : World) (vs : List Value) (t : Tp), Below w.heap.size w wz → TAt wz Any n vs t → t.cnt ≤ 1048576 → NoM t →
    Calls Tryz.prog g (fs.push (.agg vs.toArray) ++ bs) wz fun e w' => ∃ vs' n', e = .returned (.agg vs'.toArray) ∧ TAt w' (fun b => wz.heap.size ≤ b) n' vs' t ∧ Below wz.heap.size wz w'

set_option maxHeartbeats 4000000 in
set_option maxRecDepth 100000 in
theorem unRen_any (g0 : FuncId) (fs bs : Array Value) (w0 : World) (n : Nat) (en : Enters g0) (ih : CopyOf g0 fs bs w0 n) (w : World) (vs : List Value) (t : Tp) (h0 : Below w0.heap.size w0 w) (hT : TAt w Any (n + 1) vs t) (hcnt : t.cnt ≤ 1048576) (hM : NoM t) :
    Calls Tryz.prog 35 #[.agg vs.toArray, .func (.func g0) fs bs] w fun e w' => ∃ vs' n', e = .returned (.agg vs'.toArray) ∧ TAt w' (fun b => w.heap.size ≤ b) n' vs' t ∧ Below w.heap.size w w' := by
  unfold Enters at en
  obtain ⟨v, rfl, hk64, hn64, hL⟩ := hT.open_
  have hlen : t.ks.length ≤ 1048576 := by have := Tp.cntL_len t.ks; obtain ⟨k, m, ks⟩ := t; rw [Tp.cnt] at hcnt; simp only [Tp.ks] at this ⊢; omega
  have hmc : Hid (∀ x, x ∈ t.ks → x.cnt ≤ 1048576) := fun x hx => by have := Tp.cnt_le_cntL hx; obtain ⟨k, m, ks⟩ := t; rw [Tp.cnt] at hcnt; simp only [Tp.ks] at this; omega
  have hmm : Hid (∀ x, x ∈ t.ks → NoM x) := fun x hx => hM.kid hx
  obtain ⟨a0, c0, e0, -⟩ := hL.form
  subst e0
  have HL : Hid (TAtL w Any n (.slice a0 t.ks.length c0) t.ks) := hL
  have HI : Hid (CopyOf g0 fs bs w0 n) := ih
  have H0 : Hid (Below w0.heap.size w0 w) := h0
  have hB0 : Hid (∀ o', Arr ((w.alloc (.cells #[.int .i64 t.k, .int .i64 t.n, .slice a0 t.ks.length c0] 47)).alloc o') w.heap.size 47 [.int .i64 t.k, .int .i64 t.n, .slice a0 t.ks.length c0]) := fun o' => Arr.stays ⟨heap_alloc_at _ _⟩ (bl_alloc (Below.refl _ _) _)
  have hB1 : Hid (∀ o, Arr ((w.alloc o).alloc (.cells #[.int .i64 0, .int .i64 0, .slice none 0 0] 47)) (w.heap.size + 1) 47 [.int .i64 0, .int .i64 0, .slice none 0 0]) := fun o => ⟨by have := heap_alloc_at (w.alloc o) (.cells #[.int .i64 0, .int .i64 0, .slice none 0 0] 47); rw [size_alloc] at this; exact this⟩
  have HBB : Hid (∀ o o', Below w.heap.size w ((w.alloc o).alloc o')) := fun o o' => bl_alloc (bl_alloc (Below.refl _ _) _) _
  have HK64 := hid hk64
  have HN64 := hid hn64
  clear hT hL hcnt hk64 hn64 ih h0 hM
  by_cases hz : t.ks.length = 0
  · have hks : Hid (t.ks = []) := List.eq_nil_of_length_eq_zero hz
    have ht : ((t.ks.length : Int) == 0) = true := by rw [hz]; rfl
    clear hz
    go_enter Tryz.func35, Tryz.ntmps35
    go_wp2
    have q2 := (hB1.out (.cells #[.int .i64 t.k, .int .i64 t.n, .slice a0 t.ks.length c0] 47)).cell
    have q3 := (hB1.out (.cells #[.int .i64 t.k, .int .i64 t.n, .slice a0 t.ks.length c0] 47)).frozen
    refine bodyPost_ret (v := .agg #[.int .i64 t.k, .int .i64 t.n, .slice none 0 0]) (by rw [results_cell1 (fn := Tryz.f35) (p := 4) (ty := 47) (by kernel_rfl)]; simp [go_sem, q2, q3]) rfl ?_
    refine ⟨[_, _, _], 1, rfl, ?_, HBB.out _ _⟩
    have ht2 : t = .mk t.k t.n [] := by have := hks.out; obtain ⟨k, m, ks⟩ := t; simp only [Tp.ks] at this; rw [this]; rfl
    rw [ht2]
    exact ⟨_, rfl, HK64.out, HN64.out, .inr ⟨rfl, _, _, rfl⟩⟩
  · have ht : ((t.ks.length : Int) == 0) = false := by rw [beq_eq_false_iff_ne]; omega
    obtain ⟨M, hM, hmk⟩ := made_cells t.ks.length
    have hmk2 : ∀ w, (Instr.makeSlice 45 (.int .i64 (t.ks.length : Int)) (.int .i64 (t.ks.length : Int))).run Tryz.prog w = .ok (.slice (some ⟨w.heap.size, 0, none⟩) t.ks.length t.ks.length) (w.alloc (.cells M 47)) := fun w => hmk w hlen
    have HMM := hid hM
    clear hz hmk hM
    have q1 := fun o' o => ((hB0.out o').stays (bl_alloc (Below.refl _ _) o)).cell
    go_enter Tryz.func35, Tryz.ntmps35
    go_wp2
    obtain ⟨w3, hw3⟩ : ∃ w3, w3 = (w.alloc (.cells #[.int .i64 t.k, .int .i64 t.n, .slice a0 t.ks.length c0] 47)).alloc (.cells #[.int .i64 0, .int .i64 0, .slice none 0 0] 47) := ⟨_, rfl⟩
    have HA : Hid (Arr w3 w.heap.size 47 [.int .i64 t.k, .int .i64 t.n, .slice a0 t.ks.length c0]) := by rw [hw3]; exact hB0.out _
    have HR : Hid (Arr w3 (w.heap.size + 1) 47 [.int .i64 0, .int .i64 0, .slice none 0 0]) := by rw [hw3]; exact hB1.out _
    have HBW : Hid (Below w.heap.size w w3) := by rw [hw3]; exact HBB.out _ _
    have hs3 : w3.heap.size = w.heap.size + 2 := by rw [hw3, size_alloc, size_alloc]
    have hst : Rnw w idf t (.slice a0 t.ks.length c0) (w.heap.size + 2) 0 0 M.toList (w3.alloc (.cells M 47)) := by
      exact ⟨bl_alloc HBW.out _, HA.out.stays (bl_alloc (Below.refl _ _) _), HR.out.stays (bl_alloc (Below.refl _ _) _), ⟨by rw [← hs3, heap_alloc_at]⟩, Nat.le_refl _, by rw [Array.length_toList]; exact HMM.out, fun i x hi => absurd hi (Nat.not_lt_zero _)⟩
    rw [hw3] at hst
    have HS := hid hst
    clear hst HA HR hB0 hB1 HBB HMM hmk2 q1 HBW hs3 hw3 w3
    generalize ((w.alloc (.cells #[.int .i64 t.k, .int .i64 t.n, .slice a0 t.ks.length c0] 47)).alloc (.cells #[.int .i64 0, .int .i64 0, .slice none 0 0] 47)).alloc (.cells M 47) = w4 at HS ⊢
    generalize hgg : w.heap.size + 2 = g at HS ⊢
    have HGG := hid hgg
    clear hgg
    go_loopw [24] (fun v wr => ∃ (k N : Nat) (cur : List Value), v = .int .i64 k ∧ k ≤ t.ks.length ∧ Hid (Rnw w idf t (.slice a0 t.ks.length c0) g k N cur wr)) (fun v _ => t.ks.length - (intOf v).toNat)
    case atStart => exact ⟨0, _, _, rfl, Nat.zero_le _, HS⟩
    case round =>
      obtain ⟨k, N, cur, rfl, hkl, hR⟩ := hrel
      clear HS w4
      by_cases hlt : k < t.ks.length
      · obtain ⟨b, o, rfl⟩ : ∃ b o, a0 = some ⟨b, o, none⟩ := by
          rcases HL.out with ⟨b, o, c, hv, -⟩ | ⟨h0, -⟩
          · injection hv with e1 e2 e3; exact ⟨b, o, e1⟩
          · rw [h0] at hlt; exact absurd hlt (Nat.not_lt_zero _)
        obtain ⟨x, hxk⟩ : ∃ x, t.ks[k]? = some x := ⟨_, List.getElem?_eq_getElem hlt⟩
        obtain ⟨vx, tx, x0, x1, x2, -, hb⟩ := HL.out.elem hxk
        have y0 := (hR.out.bl.cell (p := ⟨b, o + k * 3, none⟩) hb).trans x0
        have y1 := (hR.out.bl.cell (p := ⟨b, o + k * 3 + 1, none⟩) hb).trans x1
        have y2 := (hR.out.bl.cell (p := ⟨b, o + k * 3 + 2, none⟩) hb).trans x2
        obtain ⟨ax, cx, ex⟩ := tx.form
        simp only [List.cons.injEq, and_true, true_and] at ex
        subst ex
        have hQ : Hid (∀ oo, Calls Tryz.prog g0 (fs.push (.agg #[.int .i64 x.k, .int .i64 x.n, .slice ax x.ks.length cx]) ++ bs) (wr.alloc oo) fun e w' => ∃ a n' c, e = .returned (.agg #[.int .i64 x.k, .int .i64 x.n, .slice a x.ks.length c]) ∧ TAt w' (fun b => wr.heap.size < b) n' [.int .i64 x.k, .int .i64 x.n, .slice a x.ks.length c] x ∧ Below (wr.alloc oo).heap.size (wr.alloc oo) w') := by
          intro oo
          refine (HI.out (wr.alloc oo) _ x (bl_tr H0.out (bl_alloc hR.out.bl _)) (tx.below (bl_alloc hR.out.bl _)) (hmc.out x (List.mem_of_getElem? hxk)) (hmm.out x (List.mem_of_getElem? hxk))).mono ?_
          rintro e w' ⟨vs', n', rfl, h1, h2⟩
          obtain ⟨a, c, rfl⟩ := h1.form
          exact ⟨a, n', c, rfl, h1.move (Keeps.refl _ _) (fun b hb => by rw [size_alloc] at hb; omega), h2⟩
        have HX := hid hxk
        have hg := hR.out.arr.lt
        have hcl : ∀ j, j < 3 → k * 3 + j < cur.length := fun j hj => by have := hR.out.len; omega
        obtain ⟨u0, hu0⟩ : ∃ u, cur[k * 3]? = some u := ⟨_, List.getElem?_eq_getElem (hcl 0 (by omega))⟩
        obtain ⟨u1, hu1⟩ : ∃ u, cur[k * 3 + 1]? = some u := ⟨_, List.getElem?_eq_getElem (hcl 1 (by omega))⟩
        obtain ⟨u2, hu2⟩ : ∃ u, cur[k * 3 + 2]? = some u := ⟨_, List.getElem?_eq_getElem (hcl 2 (by omega))⟩
        clear tx x0 x1 x2 hb hxk hcl
        go_wp2_with (refine (hQ.out _).mono ?_; rintro e w5 ⟨a5, n5, c5, rfl, hT5, hb5⟩; have HR5 : Hid (Rnw w idf t _ g k N cur w5) := (hR.out.stays (bl_alloc (Below.refl _ _) _)).stays hb5; have hf5 := HR5.out.arr.frozen; have z0 := (HR5.out.arr.cell (k * 3)).trans hu0; have z1 := (HR5.out.arr.cell (k * 3 + 1)).trans hu1; have z2 := (HR5.out.arr.cell (k * 3 + 2)).trans hu2; have HT5 : Hid (TAt w5 (fun b => g < b) n5 _ x) := hT5.move (Keeps.refl _ _) (fun b hb => by omega); clear hT5 hb5)
        go_roundw
        case rel => exact ⟨k + 1, _, _, by go_num, by omega, HR5.out.store hlt HX.out (Tp.ren_idf x) HT5.out⟩
        case measure => simp [intOf]; omega
      · obtain rfl : k = t.ks.length := by omega
        have b5 := hR.out.box.cell
        have b6 := hR.out.res.cell
        have b7 := hR.out.res.frozen
        go_wp2
        refine bodyPost_ret (v := .agg #[.int .i64 t.k, .int .i64 t.n, .slice (some ⟨g, 0, none⟩) t.ks.length t.ks.length]) (by rw [results_cell1 (fn := Tryz.f35) (p := 4) (ty := 47) (by kernel_rfl)]; simp [go_sem, b6, b7]) rfl ?_
        have hK : ∀ (W : World) j u, Keeps (fun b => w.heap.size + 2 ≤ b) W (W.setCell ⟨w.heap.size + 1, j, none⟩ u) := fun W j u => Keeps.set (K := fun b => w.heap.size + 2 ≤ b) (p := ⟨w.heap.size + 1, j, none⟩) (fun h => by simp at h) u
        refine ⟨[_, _, _], N + 1, rfl, ?_, bl_set _ _ (bl_set _ _ (bl_set _ _ hR.out.bl (by show _ ≤ w.heap.size + 1; omega)) (by show _ ≤ w.heap.size + 1; omega)) (by show _ ≤ w.heap.size + 1; omega)⟩
        exact un_idf (hR.out.fin (((hK _ _ _).trans (hK _ _ _)).trans (hK _ _ _)) HK64.out HN64.out hlen)

theorem unEnters_fresh : Enters 141 := enters_of Tryz.func141 (by kernel_rfl) rfl
set_option maxHeartbeats 1000000 in
set_option maxRecDepth 100000 in
theorem unFresh_step (w0 : World) (n : Nat) (ih : CopyOf 141 #[] #[] w0 n) : CopyOf 141 #[] #[] w0 (n + 1) := by
  intro w vs t h0 hT hc hM
  have HR : Hid (∀ o o', Calls Tryz.prog 35 #[.agg vs.toArray, .func (.func 141) #[] #[]] ((w.alloc o).alloc o') fun e w' => ∃ a c n', e = .returned (.agg #[.int .i64 t.k, .int .i64 t.n, .slice a t.ks.length c]) ∧ TAt w' (fun b => w.heap.size + 2 ≤ b) n' [.int .i64 t.k, .int .i64 t.n, .slice a t.ks.length c] t ∧ Below ((w.alloc o).alloc o').heap.size ((w.alloc o).alloc o') w') := by
    intro o o'
    refine (unRen_any _ _ _ w0 n unEnters_fresh ih ((w.alloc o).alloc o') vs t (bl_tr h0 (bl_alloc (bl_alloc (Below.refl _ _) _) _)) (hT.below (bl_alloc (bl_alloc (Below.refl _ _) _) _)) hc hM).mono ?_
    rintro e w' ⟨vs', n', rfl, h1, h2⟩
    obtain ⟨a, c, rfl⟩ := h1.form
    exact ⟨a, c, n', rfl, h1.move (Keeps.refl _ _) (fun b hb => by rw [size_alloc, size_alloc] at hb; exact hb), h2⟩
  obtain ⟨a0, c0, rfl⟩ := hT.form
  have hB1 : Hid (∀ o, Arr ((w.alloc o).alloc (.cells #[.int .i64 0, .int .i64 0, .slice none 0 0] 47)) (w.heap.size + 1) 47 [.int .i64 0, .int .i64 0, .slice none 0 0]) := fun o => ⟨by have := heap_alloc_at (w.alloc o) (.cells #[.int .i64 0, .int .i64 0, .slice none 0 0] 47); rw [size_alloc] at this; exact this⟩
  have HBB : Hid (∀ o o', Below w.heap.size w ((w.alloc o).alloc o')) := fun o o' => bl_alloc (bl_alloc (Below.refl _ _) _) _
  clear hT hc hM ih h0
  rw [show ((#[] : Array Value).push (.agg [.int .i64 t.k, .int .i64 t.n, .slice a0 t.ks.length c0].toArray) ++ (#[] : Array Value)) = #[.agg #[.int .i64 t.k, .int .i64 t.n, .slice a0 t.ks.length c0]] from by simp]
  go_enter Tryz.func141, Tryz.ntmps141
  go_wp2_with (go_at_call 35; refine (HR.out _ _).mono ?_; rintro e w3 ⟨a, c, n', rfl, hT3, hb3⟩; have q2 := ((hB1.out _).stays hb3).cell; have q3 := ((hB1.out _).stays hb3).frozen)
  refine bodyPost_ret (v := .agg #[.int .i64 t.k, .int .i64 t.n, .slice a t.ks.length c]) (by rw [results_cell1 (fn := Tryz.f141) (p := 2) (ty := 47) (by kernel_rfl)]; simp [go_sem, q2, q3]) rfl ?_
  have hK : ∀ (W : World) j u, Keeps (fun b => w.heap.size + 2 ≤ b) W (W.setCell ⟨w.heap.size + 1, j, none⟩ u) := fun W j u => Keeps.set (K := fun b => w.heap.size + 2 ≤ b) (p := ⟨w.heap.size + 1, j, none⟩) (fun h => by simp at h) u
  refine ⟨[_, _, _], n', rfl, hT3.move (((hK _ _ _).trans (hK _ _ _)).trans (hK _ _ _)) (fun b hb => by omega), bl_set _ _ (bl_set _ _ (bl_set _ _ (bl_tr (HBB.out _ _) hb3) (by show _ ≤ w.heap.size + 1; omega)) (by show _ ≤ w.heap.size + 1; omega)) (by show _ ≤ w.heap.size + 1; omega)⟩
theorem unFresh_any (w0 : World) : ∀ n, CopyOf 141 #[] #[] w0 n
  | 0 => fun w vs t _ hT => hT.elim
  | n + 1 => unFresh_step w0 n (unFresh_any w0 n)
end Go.Proofs.YtjodgnkhociaaaaGreat

namespace Go.Proofs.YtjodgnkhociaaaaGreat
open Go.RowKit
set_option linter.unusedVariables false
set_option linter.unusedSimpArgs false

theorem cntL_snoc : ∀ (l : List Tp) (x : Tp), Tp.cntL (l ++ [x]) = Tp.cntL l + x.cnt
  | [], x => by simp [Tp.cntL]
  | y :: r, x => by rw [List.cons_append, Tp.cntL, Tp.cntL, cntL_snoc r x]; omega
theorem cntL_take_le : ∀ (l : List Tp) (k : Nat), Tp.cntL (l.take k) ≤ Tp.cntL l
  | [], k => by simp
  | y :: r, 0 => by simp [Tp.cntL]
  | y :: r, k + 1 => by rw [List.take_succ_cons, Tp.cntL, Tp.cntL]; have := cntL_take_le r k; omega
theorem cnt_ks (t : Tp) : t.cnt = 1 + Tp.cntL t.ks := by obtain ⟨k, n, ks⟩ := t; rw [Tp.cnt]; simp only [Tp.ks]; omega
def USizeOf (S : Nat) (n : Nat) : Prop := ∀ (w : World) (vs : List Value) (t : Tp), TAt w Any n vs t → t.cnt ≤ 1000 → NoM t → Calls Tryz.prog 23 #[.pointer (some ⟨S, 0, none⟩), .agg vs.toArray] w fun e w' => e = .returned (.int .i64 (t.cnt : Int)) ∧ Below w.heap.size w w'
set_option maxHeartbeats 2000000 in
set_option maxRecDepth 100000 in
theorem usize_step (S n : Nat) (ih : USizeOf S n) : USizeOf S (n + 1) := by
  intro w vs t hT hcnt hM
  obtain ⟨v, rfl, -, -, hL⟩ := hT.open_
  obtain ⟨a0, c0, e0, hml⟩ := hL.form
  subst e0
  unfold maxLen at hml
  have HL : Hid (TAtL w Any n (.slice a0 t.ks.length c0) t.ks) := hL
  have HI : Hid (USizeOf S n) := ih
  have HM := hid hM
  have hct : t.cnt = 1 + Tp.cntL t.ks := cnt_ks t
  have hcl : 1 + Tp.cntL t.ks ≤ 1000 := by omega
  have HCT := hid hct
  have HC : Hid (∀ o, Calls Tryz.prog 33 #[.pointer (some ⟨S, 0, none⟩), .agg #[.int .i64 t.k, .int .i64 t.n, .slice a0 t.ks.length c0]] (w.alloc o) fun e w' => e = .returned (.tuple #[.int .i64 0, .bool false]) ∧ Below (w.alloc o).heap.size (w.alloc o) w') := fun o => class_no (w.alloc o) S t.k t.n (.bool true) hM.kind a0 t.ks.length c0
  have hB0 : Hid (Arr (w.alloc (.cells #[.int .i64 t.k, .int .i64 t.n, .slice a0 t.ks.length c0] 47)) w.heap.size 47 [.int .i64 t.k, .int .i64 t.n, .slice a0 t.ks.length c0]) := ⟨heap_alloc_at _ _⟩
  have HBB : Hid (∀ o, Below w.heap.size w (w.alloc o)) := fun o => bl_alloc (Below.refl _ _) _
  clear hT hL ih hcnt hM hct
  go_enter Tryz.func23, Tryz.ntmps23
  go_wp2_with (go_at_call 33; refine (HC.out _).mono ?_; rintro e w3 ⟨rfl, hb3⟩; have q1 := (hB0.out.stays hb3).cell)
  have HB3 : Hid (Below w.heap.size w w3) := bl_tr (HBB.out _) hb3
  clear HC hB0 HBB hb3 q1
  go_loopw [7, 24] (fun nd v wr => ∃ k : Nat, v = .int .i64 k ∧ k ≤ t.ks.length ∧ nd = .int .i64 ((1 + Tp.cntL (t.ks.take k) : Nat) : Int) ∧ Hid (Below w.heap.size w wr)) (fun _ v _ => t.ks.length - (intOf v).toNat)
  case atStart => exact ⟨0, rfl, Nat.zero_le _, by simp [Tp.cntL], HB3⟩
  case round =>
    obtain ⟨k, rfl, hkl, rfl, hR⟩ := hrel
    clear HB3
    by_cases hlt : k < t.ks.length
    · obtain ⟨b, o, rfl⟩ : ∃ b o, a0 = some ⟨b, o, none⟩ := by
        rcases HL.out with ⟨b, o, c, hv, -⟩ | ⟨h0, -⟩
        · injection hv with e1 e2 e3; exact ⟨b, o, e1⟩
        · rw [h0] at hlt; exact absurd hlt (Nat.not_lt_zero _)
      obtain ⟨x, hxk⟩ : ∃ x, t.ks[k]? = some x := ⟨_, List.getElem?_eq_getElem hlt⟩
      obtain ⟨vx, tx, x0, x1, x2, -, hb⟩ := HL.out.elem hxk
      have y0 := (hR.out.cell (p := ⟨b, o + k * 3, none⟩) hb).trans x0
      have y1 := (hR.out.cell (p := ⟨b, o + k * 3 + 1, none⟩) hb).trans x1
      have y2 := (hR.out.cell (p := ⟨b, o + k * 3 + 2, none⟩) hb).trans x2
      obtain ⟨ax, cx, ex⟩ := tx.form
      simp only [List.cons.injEq, and_true, true_and] at ex
      subst ex
      have hmem := List.mem_of_getElem? hxk
      have htk : t.ks.take (k + 1) = t.ks.take k ++ [x] := by
        rw [List.take_add_one, hxk]; rfl
      have hsum : Tp.cntL (t.ks.take (k + 1)) = Tp.cntL (t.ks.take k) + x.cnt := by rw [htk, cntL_snoc]
      have hle := cntL_take_le t.ks (k + 1)
      have hQ : Hid (∀ oo, Calls Tryz.prog 23 #[.pointer (some ⟨S, 0, none⟩), .agg #[.int .i64 x.k, .int .i64 x.n, .slice ax x.ks.length cx]] (wr.alloc oo) fun e w' => e = .returned (.int .i64 (x.cnt : Int)) ∧ Below wr.heap.size wr w') := fun oo => (HI.out (wr.alloc oo) _ x (tx.below (bl_alloc hR.out _)) (by omega) (HM.out.kid hmem)).mono fun e w' ⟨h1, h2⟩ => ⟨h1, bl_tr (bl_alloc (Below.refl _ _) _) h2⟩
      obtain ⟨p, hp⟩ : ∃ p, p = Tp.cntL (t.ks.take k) := ⟨_, rfl⟩
      obtain ⟨q, hq⟩ : ∃ q, q = x.cnt := ⟨_, rfl⟩
      rw [← hp, ← hq] at hsum
      rw [← hq] at hQ
      have hpq : (1 + p + q : Nat) ≤ 1000 := by omega
      have hd : decide ((1 : Int) + (p : Int) + (q : Int) > 1000) = false := by simp; omega
      have hd2 : ¬ ((1000 : Int) < (1 : Int) + (p : Int) + (q : Int)) := by omega
      have HSM : Hid (Tp.cntL (t.ks.take (k + 1)) = p + q) := hsum
      have hpp : ((1 + Tp.cntL (t.ks.take k) : Nat) : Int) = 1 + (p : Int) := by rw [← hp]; omega
      rw [hpp]
      clear tx x0 x1 x2 hb hxk hmem htk hsum hle hp hq hpp
      go_wp2_with (go_at_call 23; refine (hQ.out _).mono ?_; rintro e w5 ⟨rfl, hb5⟩; have HB5 := hid hb5; clear hb5)
      go_roundw
      case rel => exact ⟨k + 1, by go_num, by omega, by rw [HSM.out]; congr 1; omega, bl_tr hR.out HB5.out⟩
      case measure => simp [intOf]; omega
    · obtain rfl : k = t.ks.length := by omega
      have HE := hid (show 1 + Tp.cntL (t.ks.take t.ks.length) = t.cnt by rw [List.take_length, HCT.out])
      go_wp2
      go_ret
      exact ⟨congrArg (fun z => Ending.returned (.int .i64 z)) (by have := HE.out; omega), hR.out⟩
theorem usize_any (S : Nat) : ∀ n, USizeOf S n
  | 0 => fun w vs t hT => hT.elim
  | n + 1 => usize_step S n (usize_any S n)
def UHasOf (S : Nat) (n : Nat) : Prop := ∀ (w : World) (vs : List Value) (t : Tp) (cl : Int), TAt w Any n vs t → NoM t → Calls Tryz.prog 139 #[.pointer (some ⟨S, 0, none⟩), .agg vs.toArray, .int .i64 cl] w fun e w' => e = .returned (.bool false) ∧ Below w.heap.size w w'
set_option maxHeartbeats 2000000 in
set_option maxRecDepth 100000 in
theorem uhas_step (S n : Nat) (ih : UHasOf S n) : UHasOf S (n + 1) := by
  intro w vs t cl hT hM
  obtain ⟨v, rfl, -, -, hL⟩ := hT.open_
  obtain ⟨a0, c0, e0, hml⟩ := hL.form
  subst e0
  unfold maxLen at hml
  have HL : Hid (TAtL w Any n (.slice a0 t.ks.length c0) t.ks) := hL
  have HI : Hid (UHasOf S n) := ih
  have HM := hid hM
  have HC : Hid (∀ o, Calls Tryz.prog 33 #[.pointer (some ⟨S, 0, none⟩), .agg #[.int .i64 t.k, .int .i64 t.n, .slice a0 t.ks.length c0]] (w.alloc o) fun e w' => e = .returned (.tuple #[.int .i64 0, .bool false]) ∧ Below (w.alloc o).heap.size (w.alloc o) w') := fun o => class_no (w.alloc o) S t.k t.n (.bool true) hM.kind a0 t.ks.length c0
  have hB0 : Hid (Arr (w.alloc (.cells #[.int .i64 t.k, .int .i64 t.n, .slice a0 t.ks.length c0] 47)) w.heap.size 47 [.int .i64 t.k, .int .i64 t.n, .slice a0 t.ks.length c0]) := ⟨heap_alloc_at _ _⟩
  have HBB : Hid (∀ o, Below w.heap.size w (w.alloc o)) := fun o => bl_alloc (Below.refl _ _) _
  clear hT hL ih hM
  go_enter Tryz.func139, Tryz.ntmps139
  go_wp2_with (go_at_call 33; refine (HC.out _).mono ?_; rintro e w3 ⟨rfl, hb3⟩; have q1 := (hB0.out.stays hb3).cell)
  have HB3 : Hid (Below w.heap.size w w3) := bl_tr (HBB.out _) hb3
  clear HC hB0 HBB hb3 q1
  go_loopw [41] (fun v wr => ∃ k : Nat, v = .int .i64 k ∧ k ≤ t.ks.length ∧ Hid (Below w.heap.size w wr)) (fun v _ => t.ks.length - (intOf v).toNat)
  case atStart => exact ⟨0, rfl, Nat.zero_le _, HB3⟩
  case round =>
    obtain ⟨k, rfl, hkl, hR⟩ := hrel
    clear HB3
    by_cases hlt : k < t.ks.length
    · obtain ⟨b, o, rfl⟩ : ∃ b o, a0 = some ⟨b, o, none⟩ := by
        rcases HL.out with ⟨b, o, c, hv, -⟩ | ⟨h0, -⟩
        · injection hv with e1 e2 e3; exact ⟨b, o, e1⟩
        · rw [h0] at hlt; exact absurd hlt (Nat.not_lt_zero _)
      obtain ⟨x, hxk⟩ : ∃ x, t.ks[k]? = some x := ⟨_, List.getElem?_eq_getElem hlt⟩
      obtain ⟨vx, tx, x0, x1, x2, -, hb⟩ := HL.out.elem hxk
      have y0 := (hR.out.cell (p := ⟨b, o + k * 3, none⟩) hb).trans x0
      have y1 := (hR.out.cell (p := ⟨b, o + k * 3 + 1, none⟩) hb).trans x1
      have y2 := (hR.out.cell (p := ⟨b, o + k * 3 + 2, none⟩) hb).trans x2
      obtain ⟨ax, cx, ex⟩ := tx.form
      simp only [List.cons.injEq, and_true, true_and] at ex
      subst ex
      have hmem := List.mem_of_getElem? hxk
      have hQ : Hid (∀ oo, Calls Tryz.prog 139 #[.pointer (some ⟨S, 0, none⟩), .agg #[.int .i64 x.k, .int .i64 x.n, .slice ax x.ks.length cx], .int .i64 cl] (wr.alloc oo) fun e w' => e = .returned (.bool false) ∧ Below wr.heap.size wr w') := fun oo => (HI.out (wr.alloc oo) _ x cl (tx.below (bl_alloc hR.out _)) (HM.out.kid hmem)).mono fun e w' ⟨h1, h2⟩ => ⟨h1, bl_tr (bl_alloc (Below.refl _ _) _) h2⟩
      clear tx x0 x1 x2 hb hxk hmem
      go_wp2_with (go_at_call 139; refine (hQ.out _).mono ?_; rintro e w5 ⟨rfl, hb5⟩; have HB5 := hid hb5; clear hb5)
      go_roundw
      case rel => exact ⟨k + 1, by go_num, by omega, bl_tr hR.out HB5.out⟩
      case measure => simp [intOf]; omega
    · obtain rfl : k = t.ks.length := by omega
      go_wp2
      go_ret
      exact ⟨rfl, hR.out⟩
theorem uhas_any (S : Nat) : ∀ n, UHasOf S n
  | 0 => fun w vs t cl hT => hT.elim
  | n + 1 => uhas_step S n (uhas_any S n)
end Go.Proofs.YtjodgnkhociaaaaGreat
