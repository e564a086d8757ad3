/- renewed: the walk. -/
import Derived.Test.YtknlpeloaapaiaaTpV
namespace Go.Proofs.Ytknlpeloaapaiaa
open Go.RowKit
set_option linter.unusedVariables false
set_option linter.unusedSimpArgs false

/-- What stands in the new list: what was made of the first k, then what was there. -/
structure Ren (w : World) (n : Nat) (m : Tp → Tp) (t : Tp) (v' : Value) (g : Nat) (k N : Nat) (cur : List Value) (wr : World) : Prop where
  bl : Below w.heap.size w wr
  box : Arr wr w.heap.size 24 [.int .i64 t.k, .int .i64 t.n, v']
  res : Arr wr (w.heap.size + 1) 24 [.int .i64 0, .int .i64 0, .slice none 0 0]
  arr : Arr wr g 24 cur
  hg : w.heap.size + 2 ≤ g
  done : ∀ (i : Nat) x, i < k → t.ks[i]? = some x → ∃ a c, TAt wr (fun b => g < b) N [.int .i64 (m x).k, .int .i64 (m x).n, .slice a (m x).ks.length c] (m x) ∧ Seg cur (i * 3) [.int .i64 (m x).k, .int .i64 (m x).n, .slice a (m x).ks.length c]
  todo : ∀ (i : Nat) x, k ≤ i → t.ks[i]? = some x → ∃ a c, TAt w (fun b => b < w.heap.size) n [.int .i64 x.k, .int .i64 x.n, .slice a x.ks.length c] x ∧ Seg cur (i * 3) [.int .i64 x.k, .int .i64 x.n, .slice a x.ks.length c]
theorem Ren.stays {w : World} {n : Nat} {m : Tp → Tp} {t : Tp} {v' : Value} {g k N : Nat} {cur : List Value} {wr wz : World} (h : Ren w n m t v' g k N cur wr) (hb : Below wr.heap.size wr wz) : Ren w n m t v' g k N cur wz :=
  ⟨bl_tr h.bl hb, h.box.stays hb, h.res.stays hb, h.arr.stays hb, h.hg, fun i x hi hx => by obtain ⟨a, c, h1, h2⟩ := h.done i x hi hx; exact ⟨a, c, h1.below hb, h2⟩, h.todo⟩
theorem Ren.store {w : World} {n : Nat} {m : Tp → Tp} {t : Tp} {v' : Value} {g k N : Nat} {cur : List Value} {wr : World} (h : Ren w n m t v' g k N cur wr) (hk : k < t.ks.length) {x : Tp} (hx : t.ks[k]? = some x) {N' : Nat} {a : Option Addr} {c : Nat} (hT : TAt wr (fun b => g < b) N' [.int .i64 (m x).k, .int .i64 (m x).n, .slice a (m x).ks.length c] (m x)) :
    Ren w n m t v' g (k + 1) (max N N') (((cur.set (k * 3) (.int .i64 (m x).k)).set (k * 3 + 1) (.int .i64 (m x).n)).set (k * 3 + 2) (.slice a (m x).ks.length c)) (((wr.setCell ⟨g, k * 3, none⟩ (.int .i64 (m x).k)).setCell ⟨g, k * 3 + 1, none⟩ (.int .i64 (m x).n)).setCell ⟨g, k * 3 + 2, none⟩ (.slice a (m x).ks.length c)) := by
  have hg := h.hg
  have hK : ∀ (W : World) j u, Keeps (fun b => g < b) W (W.setCell ⟨g, j, none⟩ u) := fun W j u => Keeps.set (K := fun b => g < b) (p := ⟨g, j, none⟩) (fun h => Nat.lt_irrefl g h) u
  have hKK : Keeps (fun b => g < b) wr (((wr.setCell ⟨g, k * 3, none⟩ (.int .i64 (m x).k)).setCell ⟨g, k * 3 + 1, none⟩ (.int .i64 (m x).n)).setCell ⟨g, k * 3 + 2, none⟩ (.slice a (m x).ks.length c)) := ((hK _ _ _).trans (hK _ _ _)).trans (hK _ _ _)
  obtain ⟨a0, c0, -, hs0⟩ := h.todo k x (Nat.le_refl _) hx
  have hlen : k * 3 + 2 < cur.length := (List.getElem?_eq_some_iff.1 (hs0 2 _ rfl)).1
  refine ⟨bl_set _ _ (bl_set _ _ (bl_set _ _ h.bl (by show _ ≤ g; omega)) (by show _ ≤ g; omega)) (by show _ ≤ g; omega), ((h.box.other (by show _ ≠ g; omega) _).other (by show _ ≠ g; omega) _).other (by show _ ≠ g; omega) _, ((h.res.other (by show _ ≠ g; omega) _).other (by show _ ≠ g; omega) _).other (by show _ ≠ g; omega) _, ((h.arr.set _ _).set _ _).set _ _, hg, fun i y hi hy => ?_, fun i y hi hy => ?_⟩
  · by_cases he : i = k
    · subst he
      rw [hx] at hy
      injection hy with hy
      subst hy
      exact ⟨a, c, (hT.move hKK (fun _ h => h)).le (Nat.le_max_right _ _), Seg.set3 hlen⟩
    · obtain ⟨a1, c1, h1, h2⟩ := h.done i y (by omega) hy
      exact ⟨a1, c1, (h1.move hKK (fun _ h => h)).le (Nat.le_max_left _ _), h2.other3 rfl (by omega)⟩
  · obtain ⟨a1, c1, h1, h2⟩ := h.todo i y (by omega) hy
    exact ⟨a1, c1, h1, h2.other3 rfl (by omega)⟩

theorem Ren.fin {w : World} {n : Nat} {m : Tp → Tp} {t : Tp} {g cap N : Nat} {cur : List Value} {wr W : World} (h : Ren w n m t (.slice (some ⟨g, 0, none⟩) t.ks.length cap) g t.ks.length N cur wr) (hk : Keeps (fun b => w.heap.size + 2 ≤ b) wr W) (h64 : R64 t.k ∧ R64 t.n) (hl : t.ks.length ≤ 1000) (hc : t.ks.length ≤ cap) : TAt W (fun b => w.heap.size ≤ b) (N + 1) [.int .i64 t.k, .int .i64 t.n, .slice (some ⟨g, 0, none⟩) t.ks.length cap] (.mk t.k t.n (t.ks.map m)) := by
  have hg := h.hg
  refine ⟨_, rfl, h64.1, h64.2, (show TRow _ _ _ _ (t.ks.map m) from .inl ⟨g, 0, cap, by rw [List.length_map], by omega, by rw [List.length_map]; exact hc, by rw [List.length_map]; unfold maxLen; omega, fun i y hy => ?_⟩)⟩
  rw [List.getElem?_map] at hy
  obtain ⟨x, hx, rfl⟩ := Option.map_eq_some_iff.1 hy
  obtain ⟨a, c, h1, h2⟩ := h.done i x (List.getElem?_eq_some_iff.1 hx).1 hx
  refine ⟨_, ?_, h1.move (fun b o v hb hv => hk b o v (show _ ≤ _ by omega) hv) (fun b hb => by omega)⟩
  rw [Nat.zero_add]
  exact fun j v hv => hk g _ _ hg (Seg.cells h.arr h2 j v hv)
theorem clone_form {w w' : World} {K : Nat → Prop} {n : Nat} {l : List Tp} {v' : Value} (h : (l = [] ∧ ∃ p c, v' = .slice p 0 c) ∨ ∃ g cap cur, v' = .slice (some ⟨g, 0, none⟩) l.length cap ∧ w.heap.size ≤ g ∧ l.length ≤ cap ∧ Arr w' g 24 cur ∧ ∀ (i : Nat) x, l[i]? = some x → ∃ a c, TAt w K n [.int .i64 x.k, .int .i64 x.n, .slice a x.ks.length c] x ∧ Seg cur (i * 3) [.int .i64 x.k, .int .i64 x.n, .slice a x.ks.length c]) : ∃ p c, v' = .slice p l.length c := by
  rcases h with ⟨rfl, p, c, rfl⟩ | ⟨g, cap, cur, rfl, -⟩
  · exact ⟨_, _, rfl⟩
  · exact ⟨_, _, rfl⟩
/-- Behind the copying. -/
theorem Ren.start {w W2 w3 : World} {n : Nat} {m : Tp → Tp} {t : Tp} {v v' : Value} {g : Nat} {cur : List Value} (hb : Below w.heap.size w W2) (h3 : Below W2.heap.size W2 w3) (hB : Arr W2 w.heap.size 24 [.int .i64 t.k, .int .i64 t.n, v]) (hR : Arr W2 (w.heap.size + 1) 24 [.int .i64 0, .int .i64 0, .slice none 0 0]) (hs : W2.heap.size = w.heap.size + 2) (hg : W2.heap.size ≤ g) (ha : Arr w3 g 24 cur)
    (hl : ∀ (i : Nat) x, t.ks[i]? = some x → ∃ a c, TAt W2 (fun b => b < w.heap.size) n [.int .i64 x.k, .int .i64 x.n, .slice a x.ks.length c] x ∧ Seg cur (i * 3) [.int .i64 x.k, .int .i64 x.n, .slice a x.ks.length c]) :
    Ren w n m t v' g 0 0 cur (w3.setCell ⟨w.heap.size, 2, none⟩ v') := by
  refine ⟨bl_set _ _ (bl_tr hb h3) (Nat.le_refl _), (hB.stays h3).set 2 v', (hR.stays h3).other (by show _ ≠ w.heap.size; omega) _, ha.other (by show _ ≠ w.heap.size; omega) _, by omega, fun i x hi => absurd hi (Nat.not_lt_zero _), fun i x _ hx => ?_⟩
  obtain ⟨a, c, h1, h2⟩ := hl i x hx
  exact ⟨a, c, h1.move (fun b o u hb' hu => by rw [← hb.cell (p := ⟨b, o, none⟩) hb']; exact hu) (fun _ h => h), h2⟩

set_option maxHeartbeats 4000000 in
set_option maxRecDepth 100000 in
theorem renewed_any (g0 : FuncId) (fs : Array Value) (m : Tp → Tp) (n : Nat) (w : World) (en : Enters g0) (made : MadeOf g0 fs m w n) (vs : List Value) (t : Tp) (hT : TAt w (fun b => b < w.heap.size) (n + 1) vs t) (hcnt : Tp.cntL (t.ks.map m) < 1000) :
    Calls Try.prog 101 #[.agg vs.toArray, .func (.func g0) fs #[]] w fun e w' => ∃ vs' n', e = .returned (.agg vs'.toArray) ∧ TAt w' (fun b => w.heap.size ≤ b) n' vs' (.mk t.k t.n (t.ks.map m)) ∧ Below w.heap.size w w' := by
  unfold Enters at en
  obtain ⟨v, rfl, hk64, hn64, hL⟩ := hT.open_
  have hlen : t.ks.length ≤ 1000 := by have := Tp.cntL_len (t.ks.map m); rw [List.length_map] at this; omega
  have hmc : Hid (∀ x, x ∈ t.ks → (m x).cnt ≤ 1000) := fun x hx => by have := Tp.cnt_le_cntL (List.mem_map_of_mem (f := m) hx); omega
  have hq : Hid (∀ o o', Calls Try.prog 112 #[v] ((w.alloc o).alloc o') (CloneT ((w.alloc o).alloc o') (fun b => b < w.heap.size) n t.ks)) := fun o o' => clone_T _ _ n v t.ks (hL.below (bl_alloc (bl_alloc (Below.refl _ _) _) _)) (by omega)
  have HM : Hid (MadeOf g0 fs m w n) := made
  have H64 : Hid (R64 t.k ∧ R64 t.n) := ⟨hk64, hn64⟩
  obtain ⟨a0, c0, e0, -⟩ := hL.form
  subst e0
  have hB0 : Hid (∀ o', Arr ((w.alloc (.cells #[.int .i64 t.k, .int .i64 t.n, .slice a0 t.ks.length c0] 24)).alloc o') w.heap.size 24 [.int .i64 t.k, .int .i64 t.n, .slice a0 t.ks.length c0]) := fun o' => Arr.stays ⟨heap_alloc_at _ _⟩ (bl_alloc (Below.refl _ _) _)
  have hB1 : Hid (∀ o, Arr ((w.alloc o).alloc (.cells #[.int .i64 0, .int .i64 0, .slice none 0 0] 24)) (w.heap.size + 1) 24 [.int .i64 0, .int .i64 0, .slice none 0 0]) := fun o => ⟨by have := heap_alloc_at (w.alloc o) (.cells #[.int .i64 0, .int .i64 0, .slice none 0 0] 24); rw [size_alloc] at this; exact this⟩
  clear made hT hL hcnt hk64 hn64
  go_enter Try.func101, Try.ntmps101
  go_wp2_with (first | (go_at_call 112; refine (hq.out _ _).mono ?_; rintro e w3 ⟨v', rfl, hb3, hcl⟩; obtain ⟨p', c', rfl⟩ := clone_form hcl; have HA : Hid _ := (hB0.out _).stays hb3; have HR : Hid _ := (hB1.out _).stays hb3; have k1 := HA.out.cell; have k2 := HA.out.frozen))
  have hstart : Below w.heap.size w (w3.setCell ⟨w.heap.size, 2, none⟩ (.slice p' t.ks.length c')) ∧ Arr (w3.setCell ⟨w.heap.size, 2, none⟩ (.slice p' t.ks.length c')) w.heap.size 24 [.int .i64 t.k, .int .i64 t.n, .slice p' t.ks.length c'] ∧ Arr (w3.setCell ⟨w.heap.size, 2, none⟩ (.slice p' t.ks.length c')) (w.heap.size + 1) 24 [.int .i64 0, .int .i64 0, .slice none 0 0] ∧ (t.ks = [] ∨ ∃ g N cur, p' = some ⟨g, 0, none⟩ ∧ t.ks.length ≤ c' ∧ Ren w n m t (.slice p' t.ks.length c') g 0 N cur (w3.setCell ⟨w.heap.size, 2, none⟩ (.slice p' t.ks.length c'))) := by
    refine ⟨bl_set _ _ (bl_tr (bl_alloc (bl_alloc (Below.refl _ _) _) _) hb3) (Nat.le_refl _), HA.out.set 2 _, HR.out.other (by show _ ≠ w.heap.size; omega) _, ?_⟩
    rcases hcl with ⟨h0, -⟩ | ⟨g, cap, cur, hv, hg, hcap, ha, hel⟩
    · exact .inl h0
    · injection hv with e1 e2 e3
      subst e1; subst e3
      refine .inr ⟨g, 0, cur, rfl, hcap, Ren.start (bl_alloc (bl_alloc (Below.refl _ _) _) _) hb3 (hB0.out _) (hB1.out _) (by rw [size_alloc, size_alloc]) hg ha hel⟩
  clear hq hB0 hB1 hb3 HA HR k1 k2 hcl
  have HS : Hid _ := hstart
  clear hstart
  generalize w3.setCell ⟨w.heap.size, 2, none⟩ (.slice p' t.ks.length c') = w4 at HS
  clear w3
  go_loopw [14] (fun v wr => ∃ (k : Nat), v = .int .i64 k ∧ k ≤ t.ks.length ∧ Below w.heap.size w wr ∧ Arr wr w.heap.size 24 [.int .i64 t.k, .int .i64 t.n, .slice p' t.ks.length c'] ∧ Arr wr (w.heap.size + 1) 24 [.int .i64 0, .int .i64 0, .slice none 0 0] ∧ Hid (t.ks = [] ∨ ∃ g N cur, p' = some ⟨g, 0, none⟩ ∧ t.ks.length ≤ c' ∧ Ren w n m t (.slice p' t.ks.length c') g k N cur wr)) (fun v _ => t.ks.length - (intOf v).toNat)
  case atStart => exact ⟨0, rfl, Nat.zero_le _, HS.out.1, HS.out.2.1, HS.out.2.2.1, HS.out.2.2.2⟩
  case round =>
    obtain ⟨k, rfl, hkl, hbl, hbox, hres, hR⟩ := hrel
    clear HS w4
    by_cases hlt : k < t.ks.length
    · obtain ⟨g, N, cur, rfl, hcap, hRen⟩ := hR.out.resolve_left (fun h => by rw [h] at hlt; exact absurd hlt (Nat.not_lt_zero _))
      obtain ⟨x, hx⟩ : ∃ x, t.ks[k]? = some x := ⟨_, List.getElem?_eq_getElem hlt⟩
      obtain ⟨ax, cx, hTx, hSx⟩ := hRen.todo k x (Nat.le_refl _) hx
      have y0 : wr.cell? ⟨g, k * 3, none⟩ = some (.int .i64 x.k) := (hRen.arr.cell _).trans (hSx 0 _ rfl)
      have y1 : wr.cell? ⟨g, k * 3 + 1, none⟩ = some (.int .i64 x.n) := (hRen.arr.cell _).trans (hSx 1 _ rfl)
      have y2 : wr.cell? ⟨g, k * 3 + 2, none⟩ = some (.slice ax x.ks.length cx) := (hRen.arr.cell _).trans (hSx 2 _ rfl)
      have HR2 : Hid (Ren w n m t (.slice (some ⟨g, 0, none⟩) t.ks.length c') g k N cur wr) := hRen
      have HC : Hid (t.ks.length ≤ c') := hcap
      have HX : Hid (t.ks[k]? = some x) := hx
      have hQ : Hid (∀ wz, Below w.heap.size w wz → Calls Try.prog g0 (fs ++ #[.agg #[.int .i64 x.k, .int .i64 x.n, .slice ax x.ks.length cx]]) wz fun e w' => ∃ a n' c, e = .returned (.agg #[.int .i64 (m x).k, .int .i64 (m x).n, .slice a (m x).ks.length c]) ∧ TAt w' (fun b => wz.heap.size ≤ b) n' [.int .i64 (m x).k, .int .i64 (m x).n, .slice a (m x).ks.length c] (m x) ∧ Below wz.heap.size wz w') := by
        intro wz hz
        refine (HM.out wz _ x hz hTx (hmc.out x (List.mem_of_getElem? hx))).mono ?_
        rintro e w' ⟨vs', n', rfl, h1, h2⟩
        obtain ⟨a, c, rfl⟩ := h1.form
        exact ⟨a, n', c, rfl, h1, h2⟩
      have b2 : ∀ o, (wr.alloc o).cell? ⟨w.heap.size, 2, none⟩ = some (.slice (some ⟨g, 0, none⟩) t.ks.length c') := fun o => ((hbox.stays (bl_alloc (Below.refl _ _) o)).cell 2)
      have hg := hRen.hg
      clear hTx hSx hRen hcap hx hR hres hmc HM
      go_wp2
      go_region_with (refine (hQ.out _ (bl_dr (bl_alloc hbl _))).mono ?_; rintro e w5 ⟨a5, n5, c5, rfl, hT5, hb5⟩; have HR5 : Hid (Ren w n m t (.slice (some ⟨g, 0, none⟩) t.ks.length c') g k N cur w5) := (HR2.out.stays (bl_alloc (Below.refl _ _) _)).stays (bl_tr (Below.refl _ _).drew hb5); have hb2' := HR5.out.box.cell 2; have hf5 := HR5.out.arr.frozen; obtain ⟨a6, c6, -, hs6⟩ := HR5.out.todo k x (Nat.le_refl _) HX.out; have z0 : w5.cell? ⟨g, k * 3, none⟩ = some (.int .i64 x.k) := (HR5.out.arr.cell _).trans (hs6 0 _ rfl); have z1 : w5.cell? ⟨g, k * 3 + 1, none⟩ = some (.int .i64 x.n) := (HR5.out.arr.cell _).trans (hs6 1 _ rfl); have z2 : w5.cell? ⟨g, k * 3 + 2, none⟩ = some (.slice a6 x.ks.length c6) := (HR5.out.arr.cell _).trans (hs6 2 _ rfl); clear hs6; have HT5 : Hid (TAt w5 (fun b => g < b) n5 [.int .i64 (m x).k, .int .i64 (m x).n, .slice a5 (m x).ks.length c5] (m x)) := hT5.move (Keeps.refl _ _) (fun b hb => by have h1 := HR2.out.arr.lt; simp at hb; omega); clear hT5 hb5)
      all_goals go_wp2
      all_goals go_roundw
      all_goals (try case measure => simp [intOf]; omega)
      all_goals (
        have HF := HR5.out.store hlt HX.out HT5.out
        exact ⟨k + 1, by go_num, by omega, HF.bl, HF.box, HF.res, .inr ⟨g, _, _, rfl, HC.out, HF⟩⟩)
    · have b5 := hbox.cell
      have b6 := hres.cell
      have b7 := hres.frozen
      have HB : Hid (Below w.heap.size w wr) := hbl
      clear hbl hbox hres
      go_wp2
      refine bodyPost_ret (v := .agg #[.int .i64 t.k, .int .i64 t.n, .slice p' t.ks.length c']) (by rw [results_cell1 (fn := Try.f101) (p := 4) (ty := 24) (by kernel_rfl)]; simp [go_sem, b5, b6]) rfl ?_
      have hK : ∀ (W : World) j u, Keeps (fun b => w.heap.size + 2 ≤ b) W (W.setCell ⟨w.heap.size + 1, j, none⟩ u) := fun W j u => Keeps.set (K := fun b => w.heap.size + 2 ≤ b) (p := ⟨w.heap.size + 1, j, none⟩) (fun h => by simp at h) u
      have hbb : Below w.heap.size w (((wr.setCell ⟨w.heap.size + 1, 0, none⟩ (.int .i64 t.k)).setCell ⟨w.heap.size + 1, 1, none⟩ (.int .i64 t.n)).setCell ⟨w.heap.size + 1, 2, none⟩ (.slice p' t.ks.length c')) := bl_set _ _ (bl_set _ _ (bl_set _ _ HB.out (by show _ ≤ w.heap.size + 1; omega)) (by show _ ≤ w.heap.size + 1; omega)) (by show _ ≤ w.heap.size + 1; omega)
      have hk : k = t.ks.length := by omega
      subst hk
      rcases hR.out with h0 | ⟨g, N, cur, rfl, hcap, hRen⟩
      · refine ⟨[_, _, _], 1, rfl, ⟨_, rfl, H64.out.1, H64.out.2, (show TRow _ _ _ _ (t.ks.map m) from .inr ⟨by rw [h0]; rfl, p', c', by rw [h0]; rfl⟩)⟩, hbb⟩
      · exact ⟨[_, _, _], N + 1, rfl, hRen.fin (((hK _ _ _).trans (hK _ _ _)).trans (hK _ _ _)) H64.out hlen hcap, hbb⟩
end Go.Proofs.Ytknlpeloaapaiaa
