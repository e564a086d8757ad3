/- renewed: a type in new memory, with what is made of each node's kind and number. -/
import Derived.Laws.MakeOwn
import Derived.Test.YtknlpeloaapaiaaTpV2
import Derived.Test.YtknlpeloaapaiaaTsP
namespace Go.Proofs.Ytknlpeloaapaiaa
open Go.RowKit
set_option linter.unusedVariables false
set_option linter.unusedSimpArgs false

/-- What is made of a kind and a number. -/
def MakerOf (g : FuncId) (fs bs : Array Value) (f : Int → Int → Int × Int) (w : World) : Prop :=
  ∀ (wz : World) (k n : Int), Below w.heap.size w wz → R64 k → R64 n →
    Calls Try.prog g (fs ++ (#[.int .i64 k, .int .i64 n] ++ bs)) wz fun e w' => e = .returned (.tuple #[.int .i64 (f k n).1, .int .i64 (f k n).2]) ∧ R64 (f k n).1 ∧ R64 (f k n).2 ∧ Below wz.heap.size wz w'
def RenOf (g : FuncId) (fs bs : Array Value) (f : Int → Int → Int × Int) (w : World) (n : Nat) : Prop :=
  ∀ (wz : World) (vs : List Value) (t : Tp), Below w.heap.size w wz → TAt wz Any n vs t → t.cnt ≤ 1048576 →
    Calls Try.prog 44 #[.agg vs.toArray, .func (.func g) fs bs] wz fun e w' => ∃ vs' n', e = .returned (.agg vs'.toArray) ∧ TAt w' (fun b => wz.heap.size ≤ b) n' vs' (Tp.ren f t) ∧ Below wz.heap.size wz w'
/-- The list that is made: k elements stand in it. -/
structure Rnw (w : World) (f : Int → Int → Int × Int) (t : Tp) (v : Value) (g k N : Nat) (cur : List Value) (wr : World) : Prop where
  bl : Below w.heap.size w wr
  box : Arr wr w.heap.size 24 [.int .i64 t.k, .int .i64 t.n, v]
  res : Arr wr (w.heap.size + 1) 24 [.int .i64 0, .int .i64 0, .slice none 0 0]
  arr : Arr wr g 24 cur
  hg : w.heap.size + 2 ≤ g
  len : cur.length = t.ks.length * 3
  done : ∀ (i : Nat) x, i < k → t.ks[i]? = some x → ∃ a c, TAt wr (fun b => g < b) N [.int .i64 (Tp.ren f x).k, .int .i64 (Tp.ren f x).n, .slice a (Tp.ren f x).ks.length c] (Tp.ren f x) ∧ Seg cur (i * 3) [.int .i64 (Tp.ren f x).k, .int .i64 (Tp.ren f x).n, .slice a (Tp.ren f x).ks.length c]
theorem Rnw.stays {w : World} {f : Int → Int → Int × Int} {t : Tp} {v : Value} {g k N : Nat} {cur : List Value} {wr wz : World} (h : Rnw w f t v g k N cur wr) (hb : Below wr.heap.size wr wz) : Rnw w f t v g k N cur wz :=
  ⟨bl_tr h.bl hb, h.box.stays hb, h.res.stays hb, h.arr.stays hb, h.hg, h.len, fun i x hi hx => by obtain ⟨a, c, h1, h2⟩ := h.done i x hi hx; exact ⟨a, c, h1.below hb, h2⟩⟩
theorem Rnw.store {w : World} {f : Int → Int → Int × Int} {t : Tp} {v : Value} {g k N : Nat} {cur : List Value} {wr : World} (h : Rnw w f t v g k N cur wr) (hk : k < t.ks.length) {x y : Tp} (hx : t.ks[k]? = some x) (hy : Tp.ren f x = y) {N' : Nat} {a : Option Addr} {c : Nat} (hT : TAt wr (fun b => g < b) N' [.int .i64 y.k, .int .i64 y.n, .slice a y.ks.length c] y) :
    Rnw w f t v g (k + 1) (max N N') (((cur.set (k * 3) (.int .i64 y.k)).set (k * 3 + 1) (.int .i64 y.n)).set (k * 3 + 2) (.slice a y.ks.length c)) (((wr.setCell ⟨g, k * 3, none⟩ (.int .i64 y.k)).setCell ⟨g, k * 3 + 1, none⟩ (.int .i64 y.n)).setCell ⟨g, k * 3 + 2, none⟩ (.slice a y.ks.length c)) := by
  have hg := h.hg
  have hK : ∀ (W : World) j u, Keeps (fun b => g < b) W (W.setCell ⟨g, j, none⟩ u) := fun W j u => Keeps.set (K := fun b => g < b) (p := ⟨g, j, none⟩) (fun h => Nat.lt_irrefl g h) u
  have hKK : Keeps (fun b => g < b) wr (((wr.setCell ⟨g, k * 3, none⟩ (.int .i64 y.k)).setCell ⟨g, k * 3 + 1, none⟩ (.int .i64 y.n)).setCell ⟨g, k * 3 + 2, none⟩ (.slice a y.ks.length c)) := ((hK _ _ _).trans (hK _ _ _)).trans (hK _ _ _)
  have hlen : k * 3 + 2 < cur.length := by rw [h.len]; omega
  refine ⟨bl_set _ _ (bl_set _ _ (bl_set _ _ h.bl (by show _ ≤ g; omega)) (by show _ ≤ g; omega)) (by show _ ≤ g; omega), ((h.box.other (by show _ ≠ g; omega) _).other (by show _ ≠ g; omega) _).other (by show _ ≠ g; omega) _, ((h.res.other (by show _ ≠ g; omega) _).other (by show _ ≠ g; omega) _).other (by show _ ≠ g; omega) _, ((h.arr.set _ _).set _ _).set _ _, hg, by simp only [List.length_set]; exact h.len, fun i z hi hz => ?_⟩
  by_cases he : i = k
  · subst he
    rw [hx] at hz
    injection hz with hz
    subst hz
    subst hy
    exact ⟨a, c, (hT.move hKK (fun _ h => h)).le (Nat.le_max_right _ _), Seg.set3 hlen⟩
  · obtain ⟨a1, c1, h1, h2⟩ := h.done i z (by omega) hz
    exact ⟨a1, c1, (h1.move hKK (fun _ h => h)).le (Nat.le_max_left _ _), h2.other3 rfl (by omega)⟩
theorem Rnw.fin {w : World} {f : Int → Int → Int × Int} {t : Tp} {v : Value} {g N : Nat} {cur : List Value} {wr W : World} (h : Rnw w f t v g t.ks.length N cur wr) (hk : Keeps (fun b => w.heap.size + 2 ≤ b) wr W) (h1 : R64 (f t.k t.n).1) (h2 : R64 (f t.k t.n).2) (hl : t.ks.length ≤ 1048576) : TAt W (fun b => w.heap.size ≤ b) (N + 1) [.int .i64 (f t.k t.n).1, .int .i64 (f t.k t.n).2, .slice (some ⟨g, 0, none⟩) t.ks.length t.ks.length] (Tp.ren f t) := by
  have hg := h.hg
  rw [Tp.ren_eq]
  refine ⟨_, rfl, h1, h2, (show TRow _ _ _ _ (t.ks.map (Tp.ren f)) from .inl ⟨g, 0, t.ks.length, by rw [List.length_map], by omega, by rw [List.length_map]; exact Nat.le_refl _, by rw [List.length_map]; unfold maxLen; omega, fun i y hy => ?_⟩)⟩
  rw [List.getElem?_map] at hy
  obtain ⟨x, hx, rfl⟩ := Option.map_eq_some_iff.1 hy
  obtain ⟨a, c, h1, h2⟩ := h.done i x (List.getElem?_eq_some_iff.1 hx).1 hx
  refine ⟨_, ?_, h1.move (fun b o v hb hv => hk b o v (show _ ≤ _ by omega) hv) (fun b hb => by omega)⟩
  rw [Nat.zero_add]
  exact fun j v hv => hk g _ _ hg (Seg.cells h.arr h2 j v hv)
theorem info_type3 : (Try.prog.info? 24).map (fun i => (i.zero, i.size, i.bytes)) = some (some (.agg #[.int .i64 0, .int .i64 0, .slice none 0 0]), 3, 40) := by kernel_rfl
theorem made_cells (n : Nat) : ∃ M : Array Value, M.size = n * 3 ∧ ∀ (w : World), n ≤ 1048576 → (Instr.makeSlice 22 (.int .i64 (n : Int)) (.int .i64 (n : Int))).run Try.prog w = .ok (.slice (some ⟨w.heap.size, 0, none⟩) n n) (w.alloc (.cells M 24)) := by
  obtain ⟨i, hi, he⟩ := Option.map_eq_some_iff.1 info_type3
  injection he with hz he
  injection he with hs hb
  refine ⟨madeCells (Value.agg #[.int .i64 0, .int .i64 0, .slice none 0 0]).cells (n * 3), size_madeCells _ _, fun w hn => ?_⟩
  have h := run_make (P := Try.prog) w 22 24 i _ Try.underlying22 hi hz .i64 .i64 n n (by omega) (Int.le_refl _) (by rw [hb]; omega) (by omega)
  simp only [Int.toNat_natCast, hs] at h
  exact h

set_option maxHeartbeats 4000000 in
set_option maxRecDepth 100000 in
theorem ren_step (g0 : FuncId) (fs bs : Array Value) (f : Int → Int → Int × Int) (w0 : World) (n : Nat) (en : Enters g0) (mk : MakerOf g0 fs bs f w0) (ih : RenOf g0 fs bs f w0 n) : RenOf g0 fs bs f w0 (n + 1) := by
  intro w vs t h0 hT hcnt
  unfold Enters at en
  obtain ⟨v, rfl, hk64, hn64, hL⟩ := hT.open_
  have hlen : t.ks.length ≤ 1048576 := by have := Tp.cntL_len t.ks; obtain ⟨k, m, ks⟩ := t; rw [Tp.cnt] at hcnt; simp only [Tp.ks] at this ⊢; omega
  have hmc : Hid (∀ x, x ∈ t.ks → x.cnt ≤ 1048576) := fun x hx => by have := Tp.cnt_le_cntL hx; obtain ⟨k, m, ks⟩ := t; rw [Tp.cnt] at hcnt; simp only [Tp.ks] at this; omega
  obtain ⟨a0, c0, e0, -⟩ := hL.form
  subst e0
  have HL : Hid (TAtL w Any n (.slice a0 t.ks.length c0) t.ks) := hL
  have HI : Hid (RenOf g0 fs bs f w0 n) := ih
  have H0 : Hid (Below w0.heap.size w0 w) := h0
  have HM : Hid (∀ o o', Calls Try.prog g0 (fs ++ (#[.int .i64 t.k, .int .i64 t.n] ++ bs)) ((w.alloc o).alloc o') fun e w' => e = .returned (.tuple #[.int .i64 (f t.k t.n).1, .int .i64 (f t.k t.n).2]) ∧ R64 (f t.k t.n).1 ∧ R64 (f t.k t.n).2 ∧ Below ((w.alloc o).alloc o').heap.size ((w.alloc o).alloc o') w') := fun o o' => mk _ _ _ (bl_tr h0 (bl_alloc (bl_alloc (Below.refl _ _) _) _)) hk64 hn64
  have hB0 : Hid (∀ o', Arr ((w.alloc (.cells #[.int .i64 t.k, .int .i64 t.n, .slice a0 t.ks.length c0] 24)).alloc o') w.heap.size 24 [.int .i64 t.k, .int .i64 t.n, .slice a0 t.ks.length c0]) := fun o' => Arr.stays ⟨heap_alloc_at _ _⟩ (bl_alloc (Below.refl _ _) _)
  have hB1 : Hid (∀ o, Arr ((w.alloc o).alloc (.cells #[.int .i64 0, .int .i64 0, .slice none 0 0] 24)) (w.heap.size + 1) 24 [.int .i64 0, .int .i64 0, .slice none 0 0]) := fun o => ⟨by have := heap_alloc_at (w.alloc o) (.cells #[.int .i64 0, .int .i64 0, .slice none 0 0] 24); rw [size_alloc] at this; exact this⟩
  have HBB : Hid (∀ o o', Below w.heap.size w ((w.alloc o).alloc o')) := fun o o' => bl_alloc (bl_alloc (Below.refl _ _) _) _
  have HRE : Hid (Tp.ren f t = .mk (f t.k t.n).1 (f t.k t.n).2 (t.ks.map (Tp.ren f))) := Tp.ren_eq f t
  clear mk hT hL hcnt hk64 hn64 ih h0
  obtain ⟨k1, hk1⟩ : ∃ k1, k1 = (f t.k t.n).1 := ⟨_, rfl⟩
  obtain ⟨n1, hn1⟩ : ∃ n1, n1 = (f t.k t.n).2 := ⟨_, rfl⟩
  rw [← hk1, ← hn1] at HM HRE
  have HK1 : Hid _ := hid (hk1)
  have HN1 : Hid _ := hid (hn1)
  clear hk1 hn1
  by_cases hz : t.ks.length = 0
  · have hks : Hid (t.ks = []) := List.eq_nil_of_length_eq_zero hz
    have ht : ((t.ks.length : Int) == 0) = true := by rw [hz]; rfl
    clear hz
    go_enter Try.func44, Try.ntmps44
    go_wp2_with (refine (HM.out _ _).mono ?_; rintro e w3 ⟨rfl, hr1, hr2, hb3⟩; have HA : Hid _ := (hB0.out _).stays hb3; have HR : Hid _ := (hB1.out _).stays hb3; have q1 := HA.out.cell; have q2 := HR.out.cell; have q3 := HR.out.frozen)
    have HB3 : Hid (Below w.heap.size w w3) := bl_tr (HBB.out _ _) hb3
    clear HM hB0 hB1 HBB hb3 q1
    refine bodyPost_ret (v := .agg #[.int .i64 k1, .int .i64 n1, .slice none 0 0]) (by rw [results_cell1 (fn := Try.f44) (p := 4) (ty := 24) (by kernel_rfl)]; simp [go_sem, q2, q3]) rfl ?_
    refine ⟨[_, _, _], 1, rfl, ?_, bl_set _ _ (bl_set _ _ (bl_set _ _ HB3.out (by show _ ≤ w.heap.size + 1; omega)) (by show _ ≤ w.heap.size + 1; omega)) (by show _ ≤ w.heap.size + 1; omega)⟩
    rw [HRE.out, hks.out]
    exact ⟨_, rfl, hr1, hr2, .inr ⟨rfl, _, _, rfl⟩⟩
  · have ht : ((t.ks.length : Int) == 0) = false := by rw [beq_eq_false_iff_ne]; omega
    obtain ⟨M, hM, hmk⟩ := made_cells t.ks.length
    have hmk2 : ∀ w, (Instr.makeSlice 22 (.int .i64 (t.ks.length : Int)) (.int .i64 (t.ks.length : Int))).run Try.prog w = .ok (.slice (some ⟨w.heap.size, 0, none⟩) t.ks.length t.ks.length) (w.alloc (.cells M 24)) := fun w => hmk w hlen
    have HMM := hid hM
    clear hz hmk hM
    go_enter Try.func44, Try.ntmps44
    go_wp2_with (refine (HM.out _ _).mono ?_; rintro e w3 ⟨rfl, hr1, hr2, hb3⟩; have HA : Hid _ := (hB0.out _).stays hb3; have HR : Hid _ := (hB1.out _).stays hb3; have q1 := HA.out.cell; have q2 := HR.out.cell; have q3 := HR.out.frozen; have q4 : ∀ o, (w3.alloc o).cell? ⟨w.heap.size, 2, none⟩ = some (.slice a0 t.ks.length c0) := fun o => (HA.out.stays (bl_alloc (Below.refl _ _) o)).cell 2)
    have hst : Rnw w f t (.slice a0 t.ks.length c0) w3.heap.size 0 0 M.toList (w3.alloc (.cells M 24)) := by
      have hs3 : w.heap.size + 2 ≤ w3.heap.size := by have := hb3.size; rw [size_alloc, size_alloc] at this; exact this
      exact ⟨bl_alloc (bl_tr (HBB.out _ _) hb3) _, HA.out.stays (bl_alloc (Below.refl _ _) _), HR.out.stays (bl_alloc (Below.refl _ _) _), ⟨by rw [heap_alloc_at]⟩, hs3, by rw [Array.length_toList]; exact HMM.out, fun i x hi => absurd hi (Nat.not_lt_zero _)⟩
    have HS := hid hst
    clear hst HA HR HM hB0 hB1 HBB hb3 q1 q2 q3 q4 HMM hmk2
    generalize w3.alloc (.cells M 24) = w4 at HS
    generalize w3.heap.size = g at HS
    clear w3
    go_loopw [33] (fun v wr => ∃ (k N : Nat) (cur : List Value), v = .int .i64 k ∧ k ≤ t.ks.length ∧ Hid (Rnw w f t (.slice a0 t.ks.length c0) g k N cur wr)) (fun v _ => t.ks.length - (intOf v).toNat)
    case atStart => exact ⟨0, _, _, rfl, Nat.zero_le _, HS⟩
    case round =>
      obtain ⟨k, N, cur, rfl, hkl, hR⟩ := hrel
      clear HS w4
      by_cases hlt : k < t.ks.length
      · obtain ⟨b, o, rfl⟩ : ∃ b o, a0 = some ⟨b, o, none⟩ := by
          rcases HL.out with ⟨b, o, c, hv, -⟩ | ⟨h0, -⟩
          · injection hv with e1 e2 e3; exact ⟨b, o, e1⟩
          · rw [h0] at hlt; exact absurd hlt (Nat.not_lt_zero _)
        obtain ⟨x, hxk⟩ : ∃ x, t.ks[k]? = some x := ⟨_, List.getElem?_eq_getElem hlt⟩
        obtain ⟨vx, tx, x0, x1, x2, -, hb⟩ := HL.out.elem hxk
        have y0 := (hR.out.bl.cell (p := ⟨b, o + k * 3, none⟩) hb).trans x0
        have y1 := (hR.out.bl.cell (p := ⟨b, o + k * 3 + 1, none⟩) hb).trans x1
        have y2 := (hR.out.bl.cell (p := ⟨b, o + k * 3 + 2, none⟩) hb).trans x2
        obtain ⟨ax, cx, ex⟩ := tx.form
        simp only [List.cons.injEq, and_true, true_and] at ex
        subst ex
        have hQ : Hid (∀ oo, Calls Try.prog 44 #[.agg #[.int .i64 x.k, .int .i64 x.n, .slice ax x.ks.length cx], .func (.func g0) fs bs] (wr.alloc oo) fun e w' => ∃ y a n' c, Tp.ren f x = y ∧ e = .returned (.agg #[.int .i64 y.k, .int .i64 y.n, .slice a y.ks.length c]) ∧ TAt w' (fun b => wr.heap.size < b) n' [.int .i64 y.k, .int .i64 y.n, .slice a y.ks.length c] y ∧ Below (wr.alloc oo).heap.size (wr.alloc oo) w') := by
          intro oo
          refine (HI.out (wr.alloc oo) _ x (bl_tr H0.out (bl_alloc hR.out.bl _)) (tx.below (bl_alloc hR.out.bl _)) (hmc.out x (List.mem_of_getElem? hxk))).mono ?_
          rintro e w' ⟨vs', n', rfl, h1, h2⟩
          obtain ⟨a, c, rfl⟩ := h1.form
          exact ⟨_, a, n', c, rfl, rfl, h1.move (Keeps.refl _ _) (fun b hb => by rw [size_alloc] at hb; omega), h2⟩
        have HX := hid hxk
        have hg := hR.out.arr.lt
        have hcl : ∀ j, j < 3 → k * 3 + j < cur.length := fun j hj => by have := hR.out.len; omega
        obtain ⟨u0, hu0⟩ : ∃ u, cur[k * 3]? = some u := ⟨_, List.getElem?_eq_getElem (hcl 0 (by omega))⟩
        obtain ⟨u1, hu1⟩ : ∃ u, cur[k * 3 + 1]? = some u := ⟨_, List.getElem?_eq_getElem (hcl 1 (by omega))⟩
        obtain ⟨u2, hu2⟩ : ∃ u, cur[k * 3 + 2]? = some u := ⟨_, List.getElem?_eq_getElem (hcl 2 (by omega))⟩
        clear tx x0 x1 x2 hb hxk hcl
        go_wp2_with (refine (hQ.out _).mono ?_; rintro e w5 ⟨y, a5, n5, c5, hy5, rfl, hT5, hb5⟩; have HR5 : Hid (Rnw w f t _ g k N cur w5) := (hR.out.stays (bl_alloc (Below.refl _ _) _)).stays hb5; have hf5 := HR5.out.arr.frozen; have z0 := (HR5.out.arr.cell (k * 3)).trans hu0; have z1 := (HR5.out.arr.cell (k * 3 + 1)).trans hu1; have z2 := (HR5.out.arr.cell (k * 3 + 2)).trans hu2; have HT5 : Hid (TAt w5 (fun b => g < b) n5 _ y) := hT5.move (Keeps.refl _ _) (fun b hb => by omega); have HY5 := hid hy5; clear hT5 hb5 hy5)
        go_roundw
        case rel => exact ⟨k + 1, _, _, by go_num, by omega, HR5.out.store hlt HX.out HY5.out HT5.out⟩
        case measure => simp [intOf]; omega
      · obtain rfl : k = t.ks.length := by omega
        have b6 := hR.out.res.cell
        have b7 := hR.out.res.frozen
        go_wp2
        refine bodyPost_ret (v := .agg #[.int .i64 k1, .int .i64 n1, .slice (some ⟨g, 0, none⟩) t.ks.length t.ks.length]) (by rw [results_cell1 (fn := Try.f44) (p := 4) (ty := 24) (by kernel_rfl)]; simp [go_sem, b6, b7]) rfl ?_
        have hK : ∀ (W : World) j u, Keeps (fun b => w.heap.size + 2 ≤ b) W (W.setCell ⟨w.heap.size + 1, j, none⟩ u) := fun W j u => Keeps.set (K := fun b => w.heap.size + 2 ≤ b) (p := ⟨w.heap.size + 1, j, none⟩) (fun h => by simp at h) u
        refine ⟨[_, _, _], N + 1, rfl, ?_, bl_set _ _ (bl_set _ _ (bl_set _ _ hR.out.bl (by show _ ≤ w.heap.size + 1; omega)) (by show _ ≤ w.heap.size + 1; omega)) (by show _ ≤ w.heap.size + 1; omega)⟩
        rw [HK1.out, HN1.out]
        exact hR.out.fin (((hK _ _ _).trans (hK _ _ _)).trans (hK _ _ _)) (by rw [← HK1.out]; exact hr1) (by rw [← HN1.out]; exact hr2) hlen

theorem ren_any (g0 : FuncId) (fs bs : Array Value) (f : Int → Int → Int × Int) (w0 : World) (en : Enters g0) (mk : MakerOf g0 fs bs f w0) : ∀ n, RenOf g0 fs bs f w0 n
  | 0 => fun w vs t _ hT => hT.elim
  | n + 1 => ren_step g0 fs bs f w0 n en mk (ren_any g0 fs bs f w0 en mk n)
end Go.Proofs.Ytknlpeloaapaiaa
