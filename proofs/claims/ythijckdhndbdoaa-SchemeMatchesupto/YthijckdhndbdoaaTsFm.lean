/- The document's fits, Match, AtLeast, Alike; the law's sameAll. -/
import Derived.Test.YthijckdhndbdoaaTsZ
import Derived.Test.YthijckdhndbdoaaTpC
import Derived.Test.YthijckdhndbdoaaTpE
import Derived.Deep.QuietTactic
import Derived.BigQuiet
import Derived.Test.YthijckdhndbdoaaTsRr
namespace Go.Proofs.Ythijckdhndbdoaa
open Go.RowKit
set_option linter.unusedVariables false
set_option linter.unusedSimpArgs false

theorem Sol.nil {τ : Int → Tp} {fd : List (Option Tp)} : Sol τ fd [] ↔ ∀ (i : Nat) t, fd[i]? = some (some t) → τ i = t :=
  ⟨fun h => h.1, fun h => ⟨h, fun r hr => by cases hr⟩⟩
/-- The two rows that are written in place. -/
abbrev Own2 (KK L : Nat) : Nat → Prop := fun b => b = KK ∨ b = L
/-- A bound in memory, its rows and what stands in them. -/
structure Bd (W0 : World) (g B KK L : Nat) (fd : List (Option Tp)) (ls : List Value) (wr : World) : Prop where
  bl : Below W0.heap.size W0 wr
  lo : W0.heap.size ≤ B ∧ W0.heap.size ≤ KK ∧ W0.heap.size ≤ L
  ne : B ≠ KK ∧ B ≠ L ∧ KK ≠ L
  ab : Arr wr B 66 [.slice (some ⟨KK, 0, none⟩) g g, .slice (some ⟨L, 0, none⟩) g g]
  ak : Arr wr KK 4 (fd.map fun o => .bool o.isSome)
  al : Arr wr L 24 ls
  fl : fd.length = g
  ll : ls.length = g * 3
  gl : g ≤ 1048576
  ok : ∀ (i : Nat) t, fd[i]? = some (some t) → ∃ n a c, TAt W0 Any n [.int .i64 t.k, .int .i64 t.n, .slice a t.ks.length c] t ∧ Seg ls (i * 3) [.int .i64 t.k, .int .i64 t.n, .slice a t.ks.length c]
theorem Bd.stays {W0 : World} {g B KK L : Nat} {fd : List (Option Tp)} {ls : List Value} {wr wz : World} (h : Bd W0 g B KK L fd ls wr) (hb : Below wr.heap.size wr wz) : Bd W0 g B KK L fd ls wz :=
  ⟨bl_tr h.bl hb, h.lo, h.ne, h.ab.stays hb, h.ak.stays hb, h.al.stays hb, h.fl, h.ll, h.gl, h.ok⟩
theorem Bd.bit {W0 : World} {g B KK L : Nat} {fd : List (Option Tp)} {ls : List Value} {wr : World} (h : Bd W0 g B KK L fd ls wr) {i : Nat} {o : Option Tp} (hi : fd[i]? = some o) : wr.cell? ⟨KK, i, none⟩ = some (.bool o.isSome) := by
  rw [h.ak.cell, List.getElem?_map, hi]; rfl
theorem Bd.at_ {W0 : World} {g B KK L : Nat} {fd : List (Option Tp)} {ls : List Value} {wr : World} (h : Bd W0 g B KK L fd ls wr) {i : Nat} {t : Tp} (hi : fd[i]? = some (some t)) : ∃ n a c, TAt wr Any n [.int .i64 t.k, .int .i64 t.n, .slice a t.ks.length c] t ∧ wr.cell? ⟨L, i * 3, none⟩ = some (.int .i64 t.k) ∧ wr.cell? ⟨L, i * 3 + 1, none⟩ = some (.int .i64 t.n) ∧ wr.cell? ⟨L, i * 3 + 2, none⟩ = some (.slice a t.ks.length c) := by
  obtain ⟨n, a, c, h1, h2⟩ := h.ok i t hi
  exact ⟨n, a, c, h1.below h.bl, (h.al.cell _).trans (h2 0 _ rfl), (h.al.cell _).trans (h2 1 _ rfl), (h.al.cell _).trans (h2 2 _ rfl)⟩
theorem Bd.any {W0 : World} {g B KK L : Nat} {fd : List (Option Tp)} {ls : List Value} {wr : World} (h : Bd W0 g B KK L fd ls wr) {i : Nat} (hi : i < g) : ∃ u0 u1 u2, wr.cell? ⟨L, i * 3, none⟩ = some u0 ∧ wr.cell? ⟨L, i * 3 + 1, none⟩ = some u1 ∧ wr.cell? ⟨L, i * 3 + 2, none⟩ = some u2 := by
  have hl := h.ll
  exact ⟨_, _, _, (h.al.cell _).trans (List.getElem?_eq_getElem (by omega)), (h.al.cell _).trans (List.getElem?_eq_getElem (by omega)), (h.al.cell _).trans (List.getElem?_eq_getElem (by omega))⟩
/-- A TGen is found. -/
theorem Bd.find {W0 : World} {g B KK L : Nat} {fd : List (Option Tp)} {ls : List Value} {wr : World} (h : Bd W0 g B KK L fd ls wr) {i : Nat} (hi : i < g) {n : Nat} {a : Option Addr} {c : Nat} {y : Tp} (hT : TAt W0 Any n [.int .i64 y.k, .int .i64 y.n, .slice a y.ks.length c] y) :
    Bd W0 g B KK L (fd.set i (some y)) (((ls.set (i * 3) (.int .i64 y.k)).set (i * 3 + 1) (.int .i64 y.n)).set (i * 3 + 2) (.slice a y.ks.length c)) ((((wr.setCell ⟨KK, i, none⟩ (.bool true)).setCell ⟨L, i * 3, none⟩ (.int .i64 y.k)).setCell ⟨L, i * 3 + 1, none⟩ (.int .i64 y.n)).setCell ⟨L, i * 3 + 2, none⟩ (.slice a y.ks.length c)) := by
  have hs : ∀ (W : World) (p : Addr) u, W0.heap.size ≤ p.block → Below W0.heap.size W0 W → Below W0.heap.size W0 (W.setCell p u) := fun W p u hp h => bl_set _ _ h hp
  have hlen : i * 3 + 2 < ls.length := by rw [h.ll]; omega
  refine ⟨hs _ _ _ h.lo.2.2 (hs _ _ _ h.lo.2.2 (hs _ _ _ h.lo.2.2 (hs _ _ _ h.lo.2.1 h.bl))), h.lo, h.ne, ?_, ?_, ?_, by rw [List.length_set]; exact h.fl, by simp only [List.length_set]; exact h.ll, h.gl, fun j t hj => ?_⟩
  · exact (((h.ab.other (p := ⟨KK, i, none⟩) h.ne.1 _).other (p := ⟨L, _, none⟩) h.ne.2.1 _).other (p := ⟨L, _, none⟩) h.ne.2.1 _).other (p := ⟨L, _, none⟩) h.ne.2.1 _
  · have := (((h.ak.set i (.bool true)).other (p := ⟨L, i * 3, none⟩) h.ne.2.2 (.int .i64 y.k)).other (p := ⟨L, i * 3 + 1, none⟩) h.ne.2.2 (.int .i64 y.n)).other (p := ⟨L, i * 3 + 2, none⟩) h.ne.2.2 (.slice a y.ks.length c)
    rw [List.map_set]
    exact this
  · exact ((((h.al.other (p := ⟨KK, i, none⟩) (fun e => h.ne.2.2 e.symm) (.bool true)).set _ _).set _ _).set _ _)
  · by_cases he : i = j
    · subst he
      rw [List.getElem?_set_self (by rw [h.fl]; exact hi)] at hj
      injection hj with hj
      injection hj with hj
      subst hj
      exact ⟨n, a, c, hT, Seg.set3 hlen⟩
    · rw [List.getElem?_set_ne he] at hj
      obtain ⟨n1, a1, c1, h1, h2⟩ := h.ok j t hj
      exact ⟨n1, a1, c1, h1, h2.other3 rfl (by omega)⟩
theorem ev_find {KK L i a b : Nat} {w wr : World} {u0 u1 u2 u3 : Value} (h : Ev (Own2 KK L) w (Own2 KK L) wr) : Ev (Own2 KK L) w (Own2 KK L) ((((wr.setCell ⟨KK, i, none⟩ u0).setCell ⟨L, i * 3, none⟩ u1).setCell ⟨L, a, none⟩ u2).setCell ⟨L, b, none⟩ u3) :=
  (((h.set (p := ⟨KK, i, none⟩) (.inl rfl) u0).set (p := ⟨L, i * 3, none⟩) (.inr rfl) u1).set (p := ⟨L, a, none⟩) (.inr rfl) u2).set (p := ⟨L, b, none⟩) (.inr rfl) u3
/-- What fits answers. -/
def FitAns (W0 : World) (g B KK L : Nat) (fd : List (Option Tp)) (x y : Tp) (w : World) (e : Ending) (w' : World) : Prop :=
  ∃ r fd' ls', e = .returned (.bool r) ∧ Bd W0 g B KK L fd' ls' w' ∧ Ev (Own2 KK L) w (Own2 KK L) w' ∧ (r = true → ∀ τ, Sol τ fd' [] ↔ Sol τ fd [] ∧ Tp.inst τ x = y) ∧ (r = false → ∀ τ, ¬ (Sol τ fd [] ∧ Tp.inst τ x = y))
def FitsOf (n : Nat) : Prop := ∀ (W0 w : World) (m g B KK L : Nat) (va vb : List Value) (x y : Tp) (fd : List (Option Tp)) (ls : List Value), Bd W0 g B KK L fd ls w → TAt W0 Any n va x → TAt W0 Any m vb y → (∀ k ∈ Tp.all 8 x, 0 ≤ k ∧ k < g) → Calls Try.prog 47 #[.pointer (some ⟨B, 0, none⟩), .agg va.toArray, .agg vb.toArray] w (FitAns W0 g B KK L fd x y w)
end Go.Proofs.Ythijckdhndbdoaa

namespace Go.Proofs.Ythijckdhndbdoaa
open Go.RowKit
set_option linter.unusedVariables false
set_option linter.unusedSimpArgs false

theorem Tp.all_8 {x : Tp} (h : x.k = 8) : x.n ∈ Tp.all 8 x := by
  obtain ⟨k, n, ks⟩ := x
  have h : k = 8 := h
  rw [Tp.all, if_pos h]
  exact List.mem_append_left _ (List.mem_singleton.2 rfl)
theorem Tp.allL_mem {z : Int} : ∀ {l : List Tp} {y : Tp}, y ∈ l → z ∈ Tp.all 8 y → z ∈ Tp.allL 8 l
  | [], y, h, _ => by cases h
  | v :: r, y, h, hz => by
    rw [Tp.allL]
    rcases List.mem_cons.1 h with rfl | h
    · exact List.mem_append_left _ hz
    · exact List.mem_append_right _ (Tp.allL_mem h hz)
theorem Tp.all_ks {x y : Tp} {z : Int} (h : y ∈ x.ks) (hz : z ∈ Tp.all 8 y) : z ∈ Tp.all 8 x := by
  obtain ⟨k, n, ks⟩ := x
  rw [Tp.all]
  exact List.mem_append_right _ (Tp.allL_mem h hz)
/-- The first parts of two are the same. -/
def Upto (τ : Int → Tp) (l m : List Tp) (k : Nat) : Prop := ∀ (i : Nat) s t, i < k → l[i]? = some s → m[i]? = some t → Tp.inst τ s = t
theorem Upto.zero {τ : Int → Tp} {l m : List Tp} : Upto τ l m 0 := fun i s t h => absurd h (Nat.not_lt_zero _)
theorem Upto.succ {τ : Int → Tp} {l m : List Tp} {k : Nat} {s t : Tp} (hs : l[k]? = some s) (ht : m[k]? = some t) : Upto τ l m (k + 1) ↔ Upto τ l m k ∧ Tp.inst τ s = t := by
  constructor
  · intro h
    exact ⟨fun i s' t' hi => h i s' t' (by omega), h k s t (by omega) hs ht⟩
  · rintro ⟨h1, h2⟩ i s' t' hi hs' ht'
    by_cases he : i = k
    · subst he
      rw [hs] at hs'
      rw [ht] at ht'
      injection hs' with e1
      injection ht' with e2
      rw [← e1, ← e2]; exact h2
    · exact h1 i s' t' (by omega) hs' ht'
theorem Upto.whole {τ : Int → Tp} {x y : Tp} (hk : x.k ≠ 8) (h1 : x.k = y.k) (h2 : x.n = y.n) (hl : x.ks.length = y.ks.length) : Upto τ x.ks y.ks x.ks.length ↔ Tp.inst τ x = y := by
  constructor
  · intro h
    have he : x.ks.map (Tp.inst τ) = y.ks := by
      apply List.ext_getElem
      · rw [List.length_map]; exact hl
      · intro i hi hi'
        rw [List.length_map] at hi
        rw [List.getElem_map]
        exact h i _ _ hi (List.getElem?_eq_getElem hi) (List.getElem?_eq_getElem hi')
    rw [Tp.inst_no τ hk, he, h1, h2]
    exact (Tp.eta12 y).symm
  · intro h i s t hi hs ht
    rw [Tp.inst_no τ hk] at h
    have h3 : x.ks.map (Tp.inst τ) = y.ks := congrArg Tp.ks h
    have : (x.ks.map (Tp.inst τ))[i]? = y.ks[i]? := by rw [h3]
    rw [List.getElem?_map, hs, ht] at this
    injection this
theorem fit_known {fd : List (Option Tp)} {i : Nat} {t x y : Tp} (HI : ∀ τ, Tp.inst τ x = τ i) (hf : fd[i]? = some (some t)) : ((Tp.cmp t y == 0) = true → ∀ τ, Sol τ fd [] ↔ Sol τ fd [] ∧ Tp.inst τ x = y) ∧ ((Tp.cmp t y == 0) = false → ∀ τ, ¬ (Sol τ fd [] ∧ Tp.inst τ x = y)) := by
  refine ⟨fun h τ => ?_, fun h τ => ?_⟩
  · rw [beq_iff_eq, Tp.cmp_eq] at h
    subst h
    rw [HI]
    exact ⟨fun q => ⟨q, q.1 i t hf⟩, fun q => q.1⟩
  · rw [beq_eq_false_iff_ne] at h
    rintro ⟨q, e⟩
    rw [HI, q.1 i t hf] at e
    exact h (Tp.cmp_eq t y |>.2 e)
theorem fit_new {fd : List (Option Tp)} {i : Nat} {x y : Tp} (HI : ∀ τ, Tp.inst τ x = τ i) (hf : fd[i]? = some none) (τ : Int → Tp) : Sol τ (fd.set i (some y)) [] ↔ Sol τ fd [] ∧ Tp.inst τ x = y := by
  rw [HI]; exact Sol.find hf
theorem Arr.ev {own own' : Nat → Prop} {w w' : World} {b : Nat} {T : TypeId} {cur : List Value} (h : Arr w b T cur) (hE : Ev own w own' w') (hn : ¬ own b) : Arr w' b T cur := ⟨by rw [hE.block b h.lt hn]; exact h.b⟩
theorem Tp.inst_shape {τ : Int → Tp} {x y : Tp} (hk : x.k ≠ 8) (h : Tp.inst τ x = y) : x.k = y.k ∧ x.n = y.n ∧ x.ks.length = y.ks.length := by
  rw [Tp.inst_no τ hk] at h
  subst h
  exact ⟨rfl, rfl, by simp [Tp.ks]⟩

set_option maxHeartbeats 4000000 in
set_option maxRecDepth 100000 in
theorem fits_step (n : Nat) (ih : FitsOf n) : FitsOf (n + 1) := by
  intro W0 w m g B KK L va vb x y fd ls hS hx hy hg
  obtain ⟨v1, rfl, -, -, hL1⟩ := hx.open_
  obtain ⟨a1, c1, rfl, hm1⟩ := hL1.form
  cases m with
  | zero => exact hy.elim
  | succ m =>
  have hyF := hy
  obtain ⟨v2, rfl, -, -, hL2⟩ := hy.open_
  obtain ⟨a2, c2, rfl, hm2⟩ := hL2.form
  unfold maxLen at hm1 hm2
  have HY : Hid (TAt W0 Any (m + 1) [.int .i64 y.k, .int .i64 y.n, .slice a2 y.ks.length c2] y) := hyF
  have HL1 : Hid (TAtL W0 Any n (.slice a1 x.ks.length c1) x.ks) := hL1
  have HL2 : Hid (TAtL W0 Any m (.slice a2 y.ks.length c2) y.ks) := hL2
  have x0 : Hid (Arr ((w.alloc (.cells #[.int .i64 x.k, .int .i64 x.n, .slice a1 x.ks.length c1] 24)).alloc (.cells #[.int .i64 y.k, .int .i64 y.n, .slice a2 y.ks.length c2] 24)) w.heap.size 24 [.int .i64 x.k, .int .i64 x.n, .slice a1 x.ks.length c1]) := Arr.stays ⟨heap_alloc_at _ _⟩ (bl_alloc (Below.refl _ _) _)
  have x1 : Hid (Arr ((w.alloc (.cells #[.int .i64 x.k, .int .i64 x.n, .slice a1 x.ks.length c1] 24)).alloc (.cells #[.int .i64 y.k, .int .i64 y.n, .slice a2 y.ks.length c2] 24)) (w.heap.size + 1) 24 [.int .i64 y.k, .int .i64 y.n, .slice a2 y.ks.length c2]) := ⟨by have := heap_alloc_at (w.alloc (.cells #[.int .i64 x.k, .int .i64 x.n, .slice a1 x.ks.length c1] 24)) (.cells #[.int .i64 y.k, .int .i64 y.n, .slice a2 y.ks.length c2] 24); rw [size_alloc] at this; exact this⟩
  have xb : Hid (Below w.heap.size w ((w.alloc (.cells #[.int .i64 x.k, .int .i64 x.n, .slice a1 x.ks.length c1] 24)).alloc (.cells #[.int .i64 y.k, .int .i64 y.n, .slice a2 y.ks.length c2] 24))) := bl_alloc (bl_alloc (Below.refl _ _) _) _
  have HS : Hid (Bd W0 g B KK L fd ls ((w.alloc (.cells #[.int .i64 x.k, .int .i64 x.n, .slice a1 x.ks.length c1] 24)).alloc (.cells #[.int .i64 y.k, .int .i64 y.n, .slice a2 y.ks.length c2] 24))) := hS.stays xb.out
  have hBl : B < w.heap.size := hS.ab.lt
  have hKl : KK < w.heap.size := hS.ak.lt
  have hLl : L < w.heap.size := hS.al.lt
  have hgl : g ≤ 1048576 := hS.gl
  have HFL : Hid (fd.length = g) := hS.fl
  have HG : Hid (∀ k ∈ Tp.all 8 x, 0 ≤ k ∧ k < g) := hg
  clear hx hy hyF hL1 hL2 hS hg
  by_cases hk : x.k = 8
  · have hk2 : (x.k == 8) = true := by rw [hk]; rfl
    have hgg := HG.out _ (Tp.all_8 hk)
    have HI8 : Hid (∀ τ, Tp.inst τ x = τ x.n) := fun τ => Tp.inst_8 τ hk
    obtain ⟨i, hn⟩ : ∃ i : Nat, x.n = i := ⟨x.n.toNat, by omega⟩
    have hi : i < g := by omega
    have hii : ((i : Int) : Int).toNat = i := by omega
    obtain ⟨o, hf⟩ : ∃ o, fd[i]? = some o := ⟨_, List.getElem?_eq_getElem (by rw [HFL.out]; exact hi)⟩
    rw [hn] at HI8 x0 x1 xb HS ⊢
    clear hk hgg HG ih HL1 HL2
    cases o with
    | some t =>
      obtain ⟨nt, at1, ct1, hTt, t0, t1, t2⟩ := HS.out.at_ hf
      have HSM : Hid (∀ wz, Below ((w.alloc (.cells #[.int .i64 x.k, .int .i64 (i : Int), .slice a1 x.ks.length c1] 24)).alloc (.cells #[.int .i64 y.k, .int .i64 y.n, .slice a2 y.ks.length c2] 24)).heap.size ((w.alloc (.cells #[.int .i64 x.k, .int .i64 (i : Int), .slice a1 x.ks.length c1] 24)).alloc (.cells #[.int .i64 y.k, .int .i64 y.n, .slice a2 y.ks.length c2] 24)) wz → Calls Try.prog 12 #[.agg #[.int .i64 t.k, .int .i64 t.n, .slice at1 t.ks.length ct1], .agg #[.int .i64 y.k, .int .i64 y.n, .slice a2 y.ks.length c2]] wz fun e w' => e = .returned (.bool (Tp.cmp t y == 0)) ∧ Below wz.heap.size wz w') := fun wz hz => refSame_any wz _ _ _ _ t y (hTt.below hz) ((HY.out.below HS.out.bl).below hz)
      have HFI : Hid (fd[i]? = some (some t)) := hf
      have hbit := HS.out.bit hf
      simp only [Option.isSome_some] at hbit
      have p0 := x0.out.cell
      have p1 := x1.out.cell
      have pB := HS.out.ab.cell
      clear hTt hf
      go_enter Try.func47, Try.ntmps47
      go_wp2
      generalize ((w.alloc (.cells #[.int .i64 x.k, .int .i64 (i : Int), .slice a1 x.ks.length c1] 24)).alloc (.cells #[.int .i64 y.k, .int .i64 y.n, .slice a2 y.ks.length c2] 24)) = W2 at HS xb x0 x1 p0 p1 pB hbit t0 t1 t2 HSM ⊢
      go_quiet (fail)
      have HB := hid (bl_drewN W2 nq)
      generalize W2.drewN nq = w3 at HB ⊢
      have q0 := (x0.out.stays HB.out).cell
      have q1 := (x1.out.stays HB.out).cell
      have qB := (HS.out.stays HB.out).ab.cell
      obtain ⟨s0, s1, s2⟩ := (⟨(HB.out.cell (p := ⟨L, i * 3, none⟩) (World.block_lt_of_cell? _ _ t0)).trans t0, (HB.out.cell (p := ⟨L, i * 3 + 1, none⟩) (World.block_lt_of_cell? _ _ t1)).trans t1, (HB.out.cell (p := ⟨L, i * 3 + 2, none⟩) (World.block_lt_of_cell? _ _ t2)).trans t2⟩ : _ ∧ _ ∧ _)
      clear p0 p1 pB hbit t0 t1 t2
      go_wp2
      go_region_with (go_at_call 12; refine (HSM.out _ (bl_dr HB.out)).mono ?_; rintro e w5 ⟨rfl, hb5⟩)
      all_goals go_wp2
      all_goals go_ret
      all_goals have hbb := bl_tr HB.out (bl_tr (bl_dr (Below.refl _ _)) hb5)
      all_goals exact ⟨_, fd, ls, rfl, HS.out.stays hbb, Ev.of_below (bl_tr xb.out hbb), (fit_known HI8.out HFI.out).1, (fit_known HI8.out HFI.out).2⟩
    | none =>
      have HFI : Hid (fd[i]? = some none) := hf
      have hbit := HS.out.bit hf
      simp only [Option.isSome_none] at hbit
      have p0 := x0.out.cell
      have p1 := x1.out.cell
      have pB := HS.out.ab.cell
      clear hf
      go_enter Try.func47, Try.ntmps47
      go_wp2
      generalize ((w.alloc (.cells #[.int .i64 x.k, .int .i64 (i : Int), .slice a1 x.ks.length c1] 24)).alloc (.cells #[.int .i64 y.k, .int .i64 y.n, .slice a2 y.ks.length c2] 24)) = W2 at HS xb x0 x1 p0 p1 pB hbit ⊢
      go_quiet (fail)
      have HB := hid (bl_drewN W2 nq)
      generalize W2.drewN nq = w3 at HB ⊢
      have HS3 := hid (HS.out.stays HB.out)
      have q0 := (x0.out.stays HB.out).cell
      have q1 := (x1.out.stays HB.out).cell
      have qB := HS3.out.ab.cell
      have fK := HS3.out.ak.frozen
      have fL := HS3.out.al.frozen
      have qk := HS3.out.bit HFI.out
      simp only [Option.isSome_none] at qk
      obtain ⟨u0, u1, u2, hu0, hu1, hu2⟩ := HS3.out.any hi
      have nBK : ¬ B = KK := HS3.out.ne.1
      have nKL : ¬ KK = L := HS3.out.ne.2.2
      have nLK : ¬ L = KK := fun e => nKL e.symm
      have nBL : ¬ B = L := HS3.out.ne.2.1
      have n0K : ¬ w.heap.size = KK := by omega
      have n1K : ¬ w.heap.size + 1 = KK := by omega
      clear p0 p1 pB hbit
      go_wp2
      go_region
      all_goals go_wp2
      all_goals go_region
      all_goals go_wp2
      all_goals go_ret
      all_goals refine ⟨true, _, _, rfl, (HS3.out.find hi HY.out).stays (bl_drewN _ 2), (ev_find (Ev.of_below (bl_tr xb.out HB.out))).trans (Ev.of_below (bl_drewN _ 2)), fun _ => fit_new HI8.out HFI.out, fun h => by cases h⟩
  · have hk2 : (x.k == 8) = false := by rw [beq_eq_false_iff_ne]; exact hk
    have HK : Hid (x.k ≠ 8) := hk
    clear hk
    by_cases h1 : x.k = y.k
    · have g1 : (x.k != y.k) = false := by simp [h1]
      by_cases h2 : x.n = y.n
      · have g2 : (x.n != y.n) = false := by simp [h2]
        by_cases h3 : x.ks.length = y.ks.length
        · have g3 : ((x.ks.length : Int) != (y.ks.length : Int)) = false := by simp [h3]
          have HW : Hid (∀ τ, Upto τ x.ks y.ks x.ks.length ↔ Tp.inst τ x = y) := fun τ => Upto.whole HK.out h1 h2 h3
          have HL : Hid (x.ks.length = y.ks.length) := h3
          clear h1 h2 h3
          go_enter Try.func47, Try.ntmps47
          go_wp2
          generalize ((w.alloc (.cells #[.int .i64 x.k, .int .i64 x.n, .slice a1 x.ks.length c1] 24)).alloc (.cells #[.int .i64 y.k, .int .i64 y.n, .slice a2 y.ks.length c2] 24)) = W2 at HS xb x0 x1 ⊢
          clear hk2 g1 g2 g3
          go_loopw [7] (fun v wr => ∃ (k : Nat) (fd' : List (Option Tp)) (ls' : List Value), v = .int .i64 k ∧ k ≤ x.ks.length ∧ Hid (Bd W0 g B KK L fd' ls' wr) ∧ Hid (Arr wr w.heap.size 24 [.int .i64 x.k, .int .i64 x.n, .slice a1 x.ks.length c1] ∧ Arr wr (w.heap.size + 1) 24 [.int .i64 y.k, .int .i64 y.n, .slice a2 y.ks.length c2] ∧ Ev (Own2 KK L) w (Own2 KK L) wr) ∧ Hid (∀ τ, Sol τ fd' [] ↔ Sol τ fd [] ∧ Upto τ x.ks y.ks k)) (fun v _ => x.ks.length - (intOf v).toNat)
          case atStart => exact ⟨0, fd, ls, rfl, Nat.zero_le _, HS, ⟨x0.out, x1.out, Ev.of_below xb.out⟩, fun τ => ⟨fun h => ⟨h, Upto.zero⟩, fun h => h.1⟩⟩
          case round =>
            obtain ⟨k, fd', ls', rfl, hkl, hBd, hA, hSl⟩ := hrel
            clear HS xb x0 x1
            have p0 := hA.out.1.cell
            have p1 := hA.out.2.1.cell
            by_cases hlt : k < x.ks.length
            · obtain ⟨g1', o1, rfl⟩ : ∃ b o, a1 = some ⟨b, o, none⟩ := by
                rcases HL1.out with ⟨b, o, c, hv, -⟩ | ⟨h0, -⟩
                · injection hv with e1 e2 e3; exact ⟨b, o, e1⟩
                · rw [h0] at hlt; exact absurd hlt (Nat.not_lt_zero _)
              obtain ⟨g2', o2, rfl⟩ : ∃ b o, a2 = some ⟨b, o, none⟩ := by
                rcases HL2.out with ⟨b, o, c, hv, -⟩ | ⟨h0, -⟩
                · injection hv with e1 e2 e3; exact ⟨b, o, e1⟩
                · rw [HL.out, h0] at hlt; exact absurd hlt (Nat.not_lt_zero _)
              obtain ⟨s, hxk⟩ : ∃ s, x.ks[k]? = some s := ⟨_, List.getElem?_eq_getElem hlt⟩
              obtain ⟨t, hyk⟩ : ∃ t, y.ks[k]? = some t := ⟨_, List.getElem?_eq_getElem (by rw [← HL.out]; exact hlt)⟩
              obtain ⟨vx, tx, u0, u1, u2, -, ul⟩ := HL1.out.elem hxk
              obtain ⟨vy, ty, t0, t1, t2, -, tl⟩ := HL2.out.elem hyk
              have u0 := (hBd.out.bl.cell (p := ⟨g1', o1 + k * 3, none⟩) ul).trans u0
              have u1 := (hBd.out.bl.cell (p := ⟨g1', o1 + k * 3 + 1, none⟩) ul).trans u1
              have u2 := (hBd.out.bl.cell (p := ⟨g1', o1 + k * 3 + 2, none⟩) ul).trans u2
              have t0 := (hBd.out.bl.cell (p := ⟨g2', o2 + k * 3, none⟩) tl).trans t0
              have t1 := (hBd.out.bl.cell (p := ⟨g2', o2 + k * 3 + 1, none⟩) tl).trans t1
              have t2 := (hBd.out.bl.cell (p := ⟨g2', o2 + k * 3 + 2, none⟩) tl).trans t2
              obtain ⟨ax, cx, ex⟩ := tx.form
              simp only [List.cons.injEq, and_true, true_and] at ex
              subst ex
              obtain ⟨ay, cy, ey⟩ := ty.form
              simp only [List.cons.injEq, and_true, true_and] at ey
              subst ey
              have hlt2 : k < y.ks.length := by rw [← HL.out]; exact hlt
              have HQ : Hid (∀ wz, Below wr.heap.size wr wz → Calls Try.prog 47 #[.pointer (some ⟨B, 0, none⟩), .agg #[.int .i64 s.k, .int .i64 s.n, .slice ax s.ks.length cx], .agg #[.int .i64 t.k, .int .i64 t.n, .slice ay t.ks.length cy]] wz (FitAns W0 g B KK L fd' s t wz)) := fun wz hz => ih W0 wz m g B KK L _ _ s t fd' ls' (hBd.out.stays hz) tx ty (fun z hz => HG.out z (Tp.all_ks (List.mem_of_getElem? hxk) hz))
              have HU : Hid (∀ τ, Upto τ x.ks y.ks (k + 1) ↔ Upto τ x.ks y.ks k ∧ Tp.inst τ s = t) := fun τ => Upto.succ hxk hyk
              have HV : Hid (∀ τ, Tp.inst τ x = y → Upto τ x.ks y.ks k ∧ Tp.inst τ s = t) := fun τ h => (HU.out τ).1 (fun i a b hi => (HW.out τ).2 h i a b (by omega))
              clear hxk hyk HL1 HL2 tx ty ih ul tl
              go_wp2
              go_region_with (go_at_call 47; refine (HQ.out _ (bl_dr (Below.refl _ _))).mono ?_; rintro e w2 ⟨r, fd2, ls2, rfl, hBd2, hEv2, hT2, hF2⟩)
              all_goals (
                have HE := hid (hA.out.2.2.trans ((Ev.of_below (bl_dr (Below.refl wr.heap.size wr))).trans hEv2))
                have HA0 := hid ((hA.out.1.stays (bl_dr (Below.refl _ _))).ev hEv2 (by rintro (e | e) <;> omega))
                have HA1 := hid ((hA.out.2.1.stays (bl_dr (Below.refl _ _))).ev hEv2 (by rintro (e | e) <;> omega))
                have HB2 := hid hBd2
                have HT2 := hid hT2
                have HF2 := hid hF2
                clear hBd2 hEv2 hT2 hF2 p0 p1 u0 u1 u2 t0 t1 t2
                cases r with
                | true =>
                  go_wp2
                  go_roundw
                  case rel => exact ⟨k + 1, fd2, ls2, by go_num, by omega, HB2, ⟨HA0.out, HA1.out, HE.out⟩, fun τ => by rw [HT2.out rfl τ, hSl.out τ, HU.out τ, and_assoc]⟩
                  case measure => simp [intOf]; omega
                | false =>
                  go_wp2
                  go_ret
                  exact ⟨false, fd2, ls2, rfl, HB2.out, HE.out, (fun h => by cases h), fun _ τ h => HF2.out (by simp) τ ⟨(hSl.out τ).2 ⟨h.1, (HV.out τ h.2).1⟩, (HV.out τ h.2).2⟩⟩)
            · obtain rfl : k = x.ks.length := by omega
              clear ih HL1 HL2
              go_wp2
              go_ret
              exact ⟨true, fd', ls', rfl, hBd.out, hA.out.2.2, fun _ τ => by rw [hSl.out τ, HW.out τ], fun h => by cases h⟩
        · have g3 : ((x.ks.length : Int) != (y.ks.length : Int)) = true := by simp; omega
          have HN : Hid (∀ τ, Tp.inst τ x ≠ y) := fun τ h => h3 (Tp.inst_shape HK.out h).2.2
          clear h1 h2 h3 ih HL1 HL2
          go_enter Try.func47, Try.ntmps47
          go_wp2
          go_ret
          exact ⟨false, fd, ls, rfl, HS.out, Ev.of_below xb.out, (fun h => by cases h), fun _ τ h => HN.out τ h.2⟩
      · have g2 : (x.n != y.n) = true := by simp [h2]
        have HN : Hid (∀ τ, Tp.inst τ x ≠ y) := fun τ h => h2 (Tp.inst_shape HK.out h).2.1
        clear h1 h2 ih HL1 HL2
        go_enter Try.func47, Try.ntmps47
        go_wp2
        go_ret
        exact ⟨false, fd, ls, rfl, HS.out, Ev.of_below xb.out, (fun h => by cases h), fun _ τ h => HN.out τ h.2⟩
    · have g1 : (x.k != y.k) = true := by simp [h1]
      have HN : Hid (∀ τ, Tp.inst τ x ≠ y) := fun τ h => h1 (Tp.inst_shape HK.out h).1
      clear h1 ih HL1 HL2
      go_enter Try.func47, Try.ntmps47
      go_wp2
      go_ret
      exact ⟨false, fd, ls, rfl, HS.out, Ev.of_below xb.out, (fun h => by cases h), fun _ τ h => HN.out τ h.2⟩
theorem fits_any : ∀ n, FitsOf n
  | 0 => fun W0 w m g B KK L va vb x y fd ls _ h => h.elim
  | n + 1 => fits_step n (fits_any n)
end Go.Proofs.Ythijckdhndbdoaa

namespace Go.Proofs.Ythijckdhndbdoaa
open Go.RowKit
set_option linter.unusedVariables false
set_option linter.unusedSimpArgs false

theorem info_bool12 : (Try.prog.info? 4).map (fun i => (i.zero, i.size, i.bytes)) = some (some (.bool false), 1, 1) := by kernel_rfl
theorem made_bools (n : Nat) (w : World) (hn : n ≤ 1048576) : (Instr.makeSlice 64 (.int .i64 (n : Int)) (.int .i64 (n : Int))).run Try.prog w = .ok (.slice (some ⟨w.heap.size, 0, none⟩) n n) (w.alloc (.cells (List.replicate n (Value.bool false)).toArray 4)) := by
  obtain ⟨i, hi, hz, hs, hb⟩ := info_parts0 info_bool12
  have h := run_make (P := Try.prog) w 64 4 i _ Try.underlying64 hi hz .i64 .i64 n n (by omega) (Int.le_refl _) (by rw [hb]; omega) (by omega)
  simp only [Int.toNat_natCast, hs, Nat.mul_one] at h
  have he : madeCells (Value.bool false).cells n = (List.replicate n (Value.bool false)).toArray := by
    apply Array.ext'
    exact toList_madeCells_one _ n
  rw [h, he]
theorem Bd.new {W0 w : World} {g B KK L : Nat} {M : Array Value} (hb : Below W0.heap.size W0 w) (hg : g ≤ 1048576) (hM : M.size = g * 3) (hB : W0.heap.size ≤ B) (hK : W0.heap.size ≤ KK) (hL : W0.heap.size ≤ L) (h1 : B ≠ KK) (h2 : B ≠ L) (h3 : KK ≠ L)
    (ab : Arr w B 66 [.slice (some ⟨KK, 0, none⟩) g g, .slice (some ⟨L, 0, none⟩) g g]) (ak : Arr w KK 4 (List.replicate g (Value.bool false))) (al : Arr w L 24 M.toList) : Bd W0 g B KK L (List.replicate g none) M.toList w := by
  refine ⟨hb, ⟨hB, hK, hL⟩, ⟨h1, h2, h3⟩, ab, ?_, al, by simp, by rw [Array.length_toList, hM], hg, fun i t hi => ?_⟩
  · rw [List.map_replicate]; exact ak
  · rw [List.getElem?_replicate] at hi
    split at hi
    · injection hi with hi; cases hi
    · cases hi
theorem bd_start1 (w4 : World) (g : Nat) (M : Array Value) (hg : g ≤ 1048576) (hM : M.size = g * 3) : Bd w4 g (w4.heap.size + 1 + 1) w4.heap.size (w4.heap.size + 1) (List.replicate g none) M.toList (((w4.alloc (.cells (Array.replicate g (Value.bool false)) 4)).alloc (.cells M 24)).alloc (.cells #[.slice (some ⟨w4.heap.size, 0, none⟩) g g, .slice (some ⟨w4.heap.size + 1, 0, none⟩) g g] 66)).drew := by
  refine Bd.new (bl_dr (bl_alloc (bl_alloc (bl_alloc (Below.refl _ _) _) _) _)) hg hM (by omega) (by omega) (by omega) (by omega) (by omega) (by omega) ?_ ?_ ?_
  · refine Arr.stays ⟨?_⟩ (bl_dr (Below.refl _ _))
    have := heap_alloc_at ((w4.alloc (.cells (Array.replicate g (Value.bool false)) 4)).alloc (.cells M 24)) (.cells #[.slice (some ⟨w4.heap.size, 0, none⟩) g g, .slice (some ⟨w4.heap.size + 1, 0, none⟩) g g] 66)
    rw [size_alloc, size_alloc] at this
    exact this
  · refine Arr.stays (w := w4.alloc (.cells (Array.replicate g (Value.bool false)) 4)) ⟨?_⟩ (bl_dr (bl_alloc (bl_alloc (Below.refl _ _) _) _))
    rw [heap_alloc_at]; simp
  · refine Arr.stays (w := (w4.alloc (.cells (Array.replicate g (Value.bool false)) 4)).alloc (.cells M 24)) ⟨?_⟩ (bl_dr (bl_alloc (Below.refl _ _) _))
    have := heap_alloc_at (w4.alloc (.cells (Array.replicate g (Value.bool false)) 4)) (.cells M 24)
    rw [size_alloc] at this
    rw [this]
theorem bd_start2 (w4 : World) (g : Nat) (M : Array Value) (hg : g ≤ 1048576) (hM : M.size = g * 3) : Bd w4 g (w4.heap.size + 1 + 1) (w4.heap.size + 1) w4.heap.size (List.replicate g none) M.toList (((w4.alloc (.cells M 24)).alloc (.cells (Array.replicate g (Value.bool false)) 4)).alloc (.cells #[.slice (some ⟨w4.heap.size + 1, 0, none⟩) g g, .slice (some ⟨w4.heap.size, 0, none⟩) g g] 66)).drew := by
  refine Bd.new (bl_dr (bl_alloc (bl_alloc (bl_alloc (Below.refl _ _) _) _) _)) hg hM (by omega) (by omega) (by omega) (by omega) (by omega) (by omega) ?_ ?_ ?_
  · refine Arr.stays ⟨?_⟩ (bl_dr (Below.refl _ _))
    have := heap_alloc_at ((w4.alloc (.cells M 24)).alloc (.cells (Array.replicate g (Value.bool false)) 4)) (.cells #[.slice (some ⟨w4.heap.size + 1, 0, none⟩) g g, .slice (some ⟨w4.heap.size, 0, none⟩) g g] 66)
    rw [size_alloc, size_alloc] at this
    exact this
  · refine Arr.stays (w := (w4.alloc (.cells M 24)).alloc (.cells (Array.replicate g (Value.bool false)) 4)) ⟨?_⟩ (bl_dr (bl_alloc (Below.refl _ _) _))
    have := heap_alloc_at (w4.alloc (.cells M 24)) (.cells (Array.replicate g (Value.bool false)) 4)
    rw [size_alloc] at this
    rw [this]; simp
  · refine Arr.stays (w := w4.alloc (.cells M 24)) ⟨?_⟩ (bl_dr (bl_alloc (bl_alloc (Below.refl _ _) _) _))
    rw [heap_alloc_at]
theorem sol_new {τ : Int → Tp} {g : Nat} : Sol τ (List.replicate g none) [] := by
  rw [Sol.nil]
  intro i t hi
  rw [List.getElem?_replicate] at hi
  split at hi
  · injection hi with hi; cases hi
  · cases hi
theorem Bd.fin {W0 : World} {g B KK L : Nat} {fd : List (Option Tp)} {ls : List Value} {wr : World} (h : Bd W0 g B KK L fd ls wr) {l : List Tp} (hl : fd = l.map some) : ∃ N, TAtL wr Any N (.slice (some ⟨L, 0, none⟩) g g) l := by
  have hlen : l.length = g := by have := h.fl; rw [hl, List.length_map] at this; exact this
  have hall : ∀ k, k ≤ l.length → ∃ N, ∀ (i : Nat) x, i < k → l[i]? = some x → ∃ vs, Cells wr L (0 + i * 3) vs ∧ TAt wr Any N vs x := by
    intro k
    induction k with
    | zero => intro _; exact ⟨0, fun i x hi => absurd hi (Nat.not_lt_zero _)⟩
    | succ k ih =>
      intro hk
      obtain ⟨N, hN⟩ := ih (by omega)
      obtain ⟨x, hx⟩ : ∃ x, l[k]? = some x := ⟨_, List.getElem?_eq_getElem (by omega)⟩
      obtain ⟨n, a, c, h1, h2⟩ := h.ok k x (by rw [hl, List.getElem?_map, hx]; rfl)
      refine ⟨max N n, fun i z hi hz => ?_⟩
      by_cases he : i = k
      · subst he
        rw [hx] at hz
        injection hz with hz
        subst hz
        exact ⟨_, by rw [Nat.zero_add]; exact h2.cells h.al, (h1.below h.bl).le (Nat.le_max_right _ _)⟩
      · obtain ⟨vs, q1, q2⟩ := hN i z (by omega) hz
        exact ⟨vs, q1, q2.le (Nat.le_max_left _ _)⟩
  obtain ⟨N, hN⟩ := hall l.length (Nat.le_refl _)
  refine ⟨N, .inl ⟨L, 0, g, by rw [hlen], trivial, by omega, by have := h.gl; unfold maxLen; omega, fun i x hx => hN i x (List.getElem?_eq_some_iff.1 hx).1 hx⟩⟩
/-- What a Match answers, wherever it lies. -/
def MatAns0 (ga gb : Int) (a b : Tp) (e : Ending) (w' : World) : Prop :=
  (MatOk ga gb a b ∧ ∃ p c l N, e = .returned (.tuple #[.slice p (List.length l) c, .bool true]) ∧ TAtL w' Any N (.slice p (List.length l) c) l ∧ (l.length : Int) = ga ∧ Tp.inst (fun i => l.getD i.toNat (.mk 0 0 [])) a = b) ∨
  (¬ MatOk ga gb a b ∧ e = .returned (.tuple #[.slice none 0 0, .bool false]))
theorem MatAns.zero {ga gb : Int} {a b : Tp} {e : Ending} {w w' : World} (h : MatAns ga gb a b e w w') : MatAns0 ga gb a b e w' := by
  rcases h with ⟨h1, p, c, l, N, h2, h3, h4, h5⟩ | h
  · exact .inl ⟨h1, p, c, l, N, h2, h3.any, h4, h5⟩
  · exact .inr h
/-- There is one answer. -/
theorem mat_one {ga : Int} {a b : Tp} (hr : Tp.rightS ga a = true) {l m : List Tp} (hl : (l.length : Int) = ga) (hm : (m.length : Int) = ga) (h1 : Tp.inst (fun i => l.getD i.toNat (.mk 0 0 [])) a = b) (h2 : Tp.inst (fun i => m.getD i.toNat (.mk 0 0 [])) a = b) : l = m := by
  have := Tp.inst_inj _ _ a (rightS_right hr) (h1.trans h2.symm)
  apply List.ext_getElem
  · omega
  · intro i hi hi'
    have := this i ((rightS_all hr i).2 ⟨by omega, by omega⟩)
    simp only [Int.toNat_natCast, List.getD_eq_getElem?_getD, List.getElem?_eq_getElem hi, List.getElem?_eq_getElem hi', Option.getD_some] at this
    exact this
/-- All that was found: the list of types. -/
theorem all_found {g : Nat} {a b : Tp} (hr : Tp.rightS g a = true) {fd : List (Option Tp)} (hf : fd.length = g) (h : ∀ τ, Sol τ fd [] ↔ Tp.inst τ a = b) : ∃ l : List Tp, fd = l.map some ∧ l.length = g ∧ Tp.inst (fun i => l.getD i.toNat (.mk 0 0 [])) a = b := by
  have hw := Sol.whole (rightS_right hr) h
  have hall : ∀ o ∈ fd, o ≠ none := by
    intro o ho he
    subst he
    obtain ⟨i, hi⟩ := List.getElem?_of_mem ho
    have hlt := (List.getElem?_eq_some_iff.1 hi).1
    obtain ⟨t, ht⟩ := hw i ((rightS_all hr i).2 ⟨by omega, by omega⟩) hlt
    rw [hi] at ht
    injection ht with ht
    cases ht
  have hl : fd = (fd.map fun o => o.getD (.mk 0 0 [])).map some := by
    rw [List.map_map]
    apply List.ext_getElem
    · simp
    · intro i hi hi'
      rw [List.getElem_map]
      have := hall _ (List.getElem_mem hi)
      cases hq : fd[i] with
      | none => rw [hq] at this; exact absurd rfl this
      | some t => simp [hq]
  refine ⟨fd.map fun o => o.getD (.mk 0 0 []), hl, by rw [List.length_map]; exact hf, (h _).1 (Sol.nil.2 fun i t hi => ?_)⟩
  simp only [Int.toNat_natCast, List.getD_eq_getElem?_getD, List.getElem?_map, hi, Option.map_some, Option.getD_some]

set_option maxHeartbeats 4000000 in
set_option maxRecDepth 100000 in
theorem refMatch_any (w : World) (na nb : Nat) (ga gb : Int) (va vb : List Value) (a b : Tp) (ha : TAt w Any na va a) (hb : TAt w Any nb vb b) (hca : a.cnt ≤ 1048576) (hcb : b.cnt ≤ 1048576) :
    Calls Try.prog 15 #[.agg (.int .i64 ga :: va).toArray, .agg (.int .i64 gb :: vb).toArray] w fun e w' => MatAns0 ga gb a b e w' ∧ Below w.heap.size w w' := by
  obtain ⟨a1, c1, rfl⟩ := ha.form
  obtain ⟨b1, d1, rfl⟩ := hb.form
  have HBB : Hid (∀ o o', Below w.heap.size w ((w.alloc o).alloc o')) := fun o o' => bl_alloc (bl_alloc (Below.refl _ _) _) _
  have HA0 : Hid (∀ o, Arr ((w.alloc (.cells #[.int .i64 ga, .int .i64 a.k, .int .i64 a.n, .slice a1 a.ks.length c1] 26)).alloc o) w.heap.size 26 [.int .i64 ga, .int .i64 a.k, .int .i64 a.n, .slice a1 a.ks.length c1]) := fun o => Arr.stays ⟨heap_alloc_at _ _⟩ (bl_alloc (Below.refl _ _) _)
  have HA1 : Hid (∀ o, Arr ((w.alloc o).alloc (.cells #[.int .i64 gb, .int .i64 b.k, .int .i64 b.n, .slice b1 b.ks.length d1] 26)) (w.heap.size + 1) 26 [.int .i64 gb, .int .i64 b.k, .int .i64 b.n, .slice b1 b.ks.length d1]) := fun o => ⟨by have := heap_alloc_at (w.alloc o) (.cells #[.int .i64 gb, .int .i64 b.k, .int .i64 b.n, .slice b1 b.ks.length d1] 26); rw [size_alloc] at this; exact this⟩
  have hR1 : Hid (∀ wz, Below w.heap.size w wz → Calls Try.prog 34 #[.agg #[.int .i64 ga, .int .i64 a.k, .int .i64 a.n, .slice a1 a.ks.length c1]] wz fun e w' => e = .returned (.bool (Tp.rightS ga a)) ∧ Below wz.heap.size wz w') := fun wz hz => refRightScheme_any wz na ga _ a (ha.below hz) hca
  have hR2 : Hid (∀ wz, Below w.heap.size w wz → Calls Try.prog 34 #[.agg #[.int .i64 gb, .int .i64 b.k, .int .i64 b.n, .slice b1 b.ks.length d1]] wz fun e w' => e = .returned (.bool (Tp.rightS gb b)) ∧ Below wz.heap.size wz w') := fun wz hz => refRightScheme_any wz nb gb _ b (hb.below hz) hcb
  cases hra : Tp.rightS ga a with
  | false =>
    rw [hra] at hR1
    have HN : Hid (¬ MatOk ga gb a b) := fun h => by have := h.1; rw [hra] at this; cases this
    clear ha hb hra hR2
    go_enter Try.func15, Try.ntmps15
    go_wp2_with (go_at_call 34; refine (hR1.out _ (HBB.out _ _)).mono ?_; rintro e w3 ⟨rfl, hb3⟩; have HB3 := hid (bl_tr (HBB.out _ _) hb3); clear hb3)
    go_ret2
    exact ⟨.inr ⟨HN.out, rfl⟩, HB3.out⟩
  | true =>
    cases hrb : Tp.rightS gb b with
    | false =>
      rw [hra] at hR1
      rw [hrb] at hR2
      have HN : Hid (¬ MatOk ga gb a b) := fun h => by have := h.2.1; rw [hrb] at this; cases this
      clear ha hb hra hrb
      go_enter Try.func15, Try.ntmps15
      go_wp2_with (first | (go_at_call 34; refine (hR1.out _ (HBB.out _ _)).mono ?_; rintro e w3 ⟨rfl, hb3⟩; have HB3 := hid (bl_tr (HBB.out _ _) hb3); have q1 := ((HA1.out _).stays hb3).cell; clear hb3 hR1) | (go_at_call 34; refine (hR2.out _ HB3.out).mono ?_; rintro e w4 ⟨rfl, hb4⟩; have HB4 := hid (bl_tr HB3.out hb4); clear hb4))
      go_ret2
      exact ⟨.inr ⟨HN.out, rfl⟩, HB4.out⟩
    | true =>
      obtain ⟨g, rfl⟩ : ∃ g : Nat, ga = g := ⟨ga.toNat, by have := rightS_g hra hca; omega⟩
      have hgl : g ≤ 1048576 := by have := rightS_g hra hca; omega
      have HF : Hid (∀ (W0 wz : World) (B KK L : Nat) (M : List Value), Below w.heap.size w W0 → Bd W0 g B KK L (List.replicate g none) M wz → Calls Try.prog 47 #[.pointer (some ⟨B, 0, none⟩), .agg #[.int .i64 a.k, .int .i64 a.n, .slice a1 a.ks.length c1], .agg #[.int .i64 b.k, .int .i64 b.n, .slice b1 b.ks.length d1]] wz (FitAns W0 g B KK L (List.replicate g none) a b wz)) := fun W0 wz B KK L M h0 hz => fits_any na W0 wz nb g B KK L _ _ a b _ M hz (ha.below h0) (hb.below h0) (fun k hk => (rightS_all hra k).1 hk)
      have HFD : Hid (∀ fd : List (Option Tp), fd.length = g → (∀ τ, Sol τ fd [] ↔ Sol τ (List.replicate g none) [] ∧ Tp.inst τ a = b) → ∃ l : List Tp, fd = l.map some ∧ l.length = g ∧ Tp.inst (fun i => l.getD i.toNat (.mk 0 0 [])) a = b) := fun fd hf h => all_found hra hf (fun τ => (h τ).trans ⟨fun q => q.2, fun q => ⟨sol_new, q⟩⟩)
      have HOK : Hid (∀ τ, Tp.inst τ a = b → MatOk g gb a b) := fun τ h => ⟨hra, hrb, τ, h⟩
      have HNO : Hid ((∀ τ, ¬ (Sol τ (List.replicate g none) [] ∧ Tp.inst τ a = b)) → ¬ MatOk g gb a b) := fun h h2 => by obtain ⟨τ, e⟩ := h2.2.2; exact h τ ⟨sol_new, e⟩
      rw [hra] at hR1
      rw [hrb] at hR2
      obtain ⟨M, hM1, hmk⟩ := made_cells g
      have hmk2 : ∀ w, (Instr.makeSlice 22 (.int .i64 (g : Int)) (.int .i64 (g : Int))).run Try.prog w = .ok (.slice (some ⟨w.heap.size, 0, none⟩) g g) (w.alloc (.cells M 24)) := fun w => hmk w hgl
      have hmk3 : ∀ w, (Instr.makeSlice 64 (.int .i64 (g : Int)) (.int .i64 (g : Int))).run Try.prog w = .ok (.slice (some ⟨w.heap.size, 0, none⟩) g g) (w.alloc (.cells (List.replicate g (Value.bool false)).toArray 4)) := fun w => made_bools g w hgl
      have HM1 := hid hM1
      clear ha hb hra hrb hmk hM1
      go_enter Try.func15, Try.ntmps15
      go_wp2_with (first | (go_at_call 34; refine (hR1.out _ (HBB.out _ _)).mono ?_; rintro e w3 ⟨rfl, hb3⟩; have HB3 := hid (bl_tr (HBB.out _ _) hb3); have HQ0 := hid ((HA0.out _).stays hb3); have HQ1 := hid ((HA1.out _).stays hb3); have q0 := HQ0.out.cell; have q1 := HQ1.out.cell; clear hb3 hR1) | (go_at_call 34; refine (hR2.out _ HB3.out).mono ?_; rintro e w4 ⟨rfl, hb4⟩; have HB4 := hid (bl_tr HB3.out hb4); have HR0 := hid (HQ0.out.stays hb4); have HR1 := hid (HQ1.out.stays hb4); have r0 := HR0.out.cell; have r1 := HR1.out.cell; have ra0 := fun o => (HR0.out.stays (bl_alloc (Below.refl _ _) o)).cell; clear hb4 q0 q1 HQ0 HQ1 HB3))
      go_region
      · have HBd := hid (bd_start1 w4 g M hgl HM1.out)
        generalize (((w4.alloc (.cells (Array.replicate g (Value.bool false)) 4)).alloc (.cells M 24)).alloc (.cells #[.slice (some ⟨w4.heap.size, 0, none⟩) g g, .slice (some ⟨w4.heap.size + 1, 0, none⟩) g g] 66)).drew = w5 at HBd ⊢
        have HB5 := hid HBd.out.bl
        have r0 := (HR0.out.stays HB5.out).cell
        have r1 := (HR1.out.stays HB5.out).cell
        clear HR0 HR1 ra0 hmk2 hmk3 HA0 HA1 hR2 HM1
        go_wp2_with (go_at_call 47; refine (HF.out w4 _ _ _ _ _ HB4.out HBd.out).mono ?_; rintro e w6 ⟨r, fd, ls, rfl, hBd, hEv, hT, hFa⟩; have cB := hBd.ab.cell; have HD := hid hBd; have HT := hid hT; have HX := hid hFa; clear hBd hEv hT hFa r0 r1; cases r)
        · go_ret2
          exact ⟨.inr ⟨HNO.out (HX.out (by simp)), rfl⟩, bl_tr HB4.out HD.out.bl⟩
        · obtain ⟨l, hl1, hl2, hl3⟩ := HFD.out fd HD.out.fl (HT.out (by simp))
          obtain ⟨N, hN⟩ := HD.out.fin hl1
          have HL2 := hid hl2
          have HL3 := hid hl3
          have HN := hid hN
          clear hl1 hl2 hl3 hN cB
          go_ret2
          exact ⟨.inl ⟨HOK.out _ HL3.out, some ⟨w4.heap.size + 1, 0, none⟩, g, l, N, (by rw [HL2.out]; rfl), by rw [HL2.out]; exact HN.out, by rw [HL2.out], HL3.out⟩, bl_tr HB4.out HD.out.bl⟩
      · have HBd := hid (bd_start2 w4 g M hgl HM1.out)
        generalize (((w4.alloc (.cells M 24)).alloc (.cells (Array.replicate g (Value.bool false)) 4)).alloc (.cells #[.slice (some ⟨w4.heap.size + 1, 0, none⟩) g g, .slice (some ⟨w4.heap.size, 0, none⟩) g g] 66)).drew = w5 at HBd ⊢
        have HB5 := hid HBd.out.bl
        have r0 := (HR0.out.stays HB5.out).cell
        have r1 := (HR1.out.stays HB5.out).cell
        clear HR0 HR1 ra0 hmk2 hmk3 HA0 HA1 hR2 HM1
        go_wp2_with (go_at_call 47; refine (HF.out w4 _ _ _ _ _ HB4.out HBd.out).mono ?_; rintro e w6 ⟨r, fd, ls, rfl, hBd, hEv, hT, hFa⟩; have cB := hBd.ab.cell; have HD := hid hBd; have HT := hid hT; have HX := hid hFa; clear hBd hEv hT hFa r0 r1; cases r)
        · go_ret2
          exact ⟨.inr ⟨HNO.out (HX.out (by simp)), rfl⟩, bl_tr HB4.out HD.out.bl⟩
        · obtain ⟨l, hl1, hl2, hl3⟩ := HFD.out fd HD.out.fl (HT.out (by simp))
          obtain ⟨N, hN⟩ := HD.out.fin hl1
          have HL2 := hid hl2
          have HL3 := hid hl3
          have HN := hid hN
          clear hl1 hl2 hl3 hN cB
          go_ret2
          exact ⟨.inl ⟨HOK.out _ HL3.out, some ⟨w4.heap.size, 0, none⟩, g, l, N, (by rw [HL2.out]; rfl), by rw [HL2.out]; exact HN.out, by rw [HL2.out], HL3.out⟩, bl_tr HB4.out HD.out.bl⟩

set_option maxHeartbeats 1000000 in
set_option maxRecDepth 100000 in
theorem refAtLeast_any (w : World) (na nb : Nat) (ga gb : Int) (va vb : List Value) (a b : Tp) (ha : TAt w Any na va a) (hb : TAt w Any nb vb b) (hca : a.cnt ≤ 1048576) (hcb : b.cnt ≤ 1048576) (r : Bool) (hr : r = true ↔ MatOk ga gb a b) :
    Calls Try.prog 18 #[.agg (.int .i64 ga :: va).toArray, .agg (.int .i64 gb :: vb).toArray] w fun e w' => e = .returned (.bool r) ∧ Below w.heap.size w w' := by
  obtain ⟨a1, c1, rfl⟩ := ha.form
  obtain ⟨b1, d1, rfl⟩ := hb.form
  have HBB : Hid (∀ o o', Below w.heap.size w ((w.alloc o).alloc o')) := fun o o' => bl_alloc (bl_alloc (Below.refl _ _) _) _
  have hM : Hid (∀ o o', Calls Try.prog 15 #[.agg #[.int .i64 ga, .int .i64 a.k, .int .i64 a.n, .slice a1 a.ks.length c1], .agg #[.int .i64 gb, .int .i64 b.k, .int .i64 b.n, .slice b1 b.ks.length d1]] ((w.alloc o).alloc o') fun e w' => ∃ p n c, e = .returned (.tuple #[.slice p n c, .bool r]) ∧ Below ((w.alloc o).alloc o').heap.size ((w.alloc o).alloc o') w') := by
    intro o o'
    refine (refMatch_any _ na nb ga gb _ _ a b (ha.below (HBB.out o o')) (hb.below (HBB.out o o')) hca hcb).mono ?_
    rintro e w' ⟨h | h, h2⟩
    · obtain ⟨h1, p, c, l, N, rfl, -⟩ := h
      exact ⟨p, l.length, c, by rw [hr.2 h1], h2⟩
    · have : r = false := by cases r with | false => rfl | true => exact absurd (hr.1 rfl) h.1
      exact ⟨none, 0, 0, by rw [this]; exact h.2, h2⟩
  clear ha hb hca hcb hr
  go_enter Try.func18, Try.ntmps18
  go_wp2_with (go_at_call 15; refine (hM.out _ _).mono ?_; rintro e w3 ⟨p3, n3, c3, rfl, hb3⟩; have HB3 := hid (bl_tr (HBB.out _ _) hb3); clear hb3)
  go_ret
  exact ⟨rfl, HB3.out⟩


set_option maxHeartbeats 1000000 in
set_option maxRecDepth 100000 in
theorem refAlike_any (w : World) (na nb : Nat) (ga gb : Int) (va vb : List Value) (a b : Tp) (ha : TAt w Any na va a) (hb : TAt w Any nb vb b) (hca : a.cnt ≤ 1048576) (hcb : b.cnt ≤ 1048576) (r1 r2 : Bool) (h1 : r1 = true ↔ MatOk ga gb a b) (h2 : r2 = true ↔ MatOk gb ga b a) :
    Calls Try.prog 20 #[.agg (.int .i64 ga :: va).toArray, .agg (.int .i64 gb :: vb).toArray] w fun e w' => e = .returned (.bool (r1 && r2)) ∧ Below w.heap.size w w' := by
  obtain ⟨a1, c1, rfl⟩ := ha.form
  obtain ⟨b1, d1, rfl⟩ := hb.form
  have HBB : Hid (∀ o o', Below w.heap.size w ((w.alloc o).alloc o')) := fun o o' => bl_alloc (bl_alloc (Below.refl _ _) _) _
  have HA0 : Hid (∀ o, Arr ((w.alloc (.cells #[.int .i64 ga, .int .i64 a.k, .int .i64 a.n, .slice a1 a.ks.length c1] 26)).alloc o) w.heap.size 26 [.int .i64 ga, .int .i64 a.k, .int .i64 a.n, .slice a1 a.ks.length c1]) := fun o => Arr.stays ⟨heap_alloc_at _ _⟩ (bl_alloc (Below.refl _ _) _)
  have HA1 : Hid (∀ o, Arr ((w.alloc o).alloc (.cells #[.int .i64 gb, .int .i64 b.k, .int .i64 b.n, .slice b1 b.ks.length d1] 26)) (w.heap.size + 1) 26 [.int .i64 gb, .int .i64 b.k, .int .i64 b.n, .slice b1 b.ks.length d1]) := fun o => ⟨by have := heap_alloc_at (w.alloc o) (.cells #[.int .i64 gb, .int .i64 b.k, .int .i64 b.n, .slice b1 b.ks.length d1] 26); rw [size_alloc] at this; exact this⟩
  have L1 : Hid (∀ wz, Below w.heap.size w wz → Calls Try.prog 18 #[.agg #[.int .i64 ga, .int .i64 a.k, .int .i64 a.n, .slice a1 a.ks.length c1], .agg #[.int .i64 gb, .int .i64 b.k, .int .i64 b.n, .slice b1 b.ks.length d1]] wz fun e w' => e = .returned (.bool r1) ∧ Below wz.heap.size wz w') := fun wz hz => refAtLeast_any wz na nb ga gb _ _ a b (ha.below hz) (hb.below hz) hca hcb r1 h1
  have L2 : Hid (∀ wz, Below w.heap.size w wz → Calls Try.prog 18 #[.agg #[.int .i64 gb, .int .i64 b.k, .int .i64 b.n, .slice b1 b.ks.length d1], .agg #[.int .i64 ga, .int .i64 a.k, .int .i64 a.n, .slice a1 a.ks.length c1]] wz fun e w' => e = .returned (.bool r2) ∧ Below wz.heap.size wz w') := fun wz hz => refAtLeast_any wz nb na gb ga _ _ b a (hb.below hz) (ha.below hz) hcb hca r2 h2
  clear ha hb hca hcb h1 h2
  have m1 : Hid True := trivial
  cases r1 with
  | false =>
    go_enter Try.func20, Try.ntmps20
    go_wp2_with (go_at_call 18; refine (L1.out _ (HBB.out _ _)).mono ?_; rintro e w3 ⟨rfl, hb3⟩; have HB3 := hid (bl_tr (HBB.out _ _) hb3); clear hb3)
    go_ret
    exact ⟨rfl, HB3.out⟩
  | true =>
    go_enter Try.func20, Try.ntmps20
    go_wp2_with (first | (go_at_call 18; have := m1; refine (L1.out _ (HBB.out _ _)).mono ?_; rintro e w3 ⟨rfl, hb3⟩; have HB3 := hid (bl_tr (HBB.out _ _) hb3); have q0 := ((HA0.out _).stays hb3).cell; have q1 := ((HA1.out _).stays hb3).cell; clear hb3 m1) | (go_at_call 18; refine (L2.out _ HB3.out).mono ?_; rintro e w4 ⟨rfl, hb4⟩; have HB4 := hid (bl_tr HB3.out hb4); clear hb4))
    go_ret
    exact ⟨by simp, HB4.out⟩

set_option maxHeartbeats 4000000 in
set_option maxRecDepth 100000 in
theorem sameAll_any (w : World) (n m : Nat) (v v' : Value) (l : List Tp) (h : TAtL w Any n v l) (h' : TAtL w Any m v' l) : Calls Try.prog 16 #[v, v'] w fun e w' => e = .returned (.bool true) ∧ Below w.heap.size w w' := by
  obtain ⟨a, c, rfl, hm⟩ := h.form
  obtain ⟨a', c', rfl, -⟩ := h'.form
  unfold maxLen at hm
  have HL := hid h
  have HL' := hid h'
  have hne : ((l.length : Int) != (l.length : Int)) = false := by simp
  clear h h'
  go_enter Try.func16, Try.ntmps16
  go_wp2
  go_loopw [5] (fun v wr => ∃ k : Nat, v = .int .i64 k ∧ k ≤ l.length ∧ Hid (Below w.heap.size w wr)) (fun v _ => l.length - (intOf v).toNat)
  case atStart => exact ⟨0, rfl, Nat.zero_le _, Below.refl _ _⟩
  case round =>
    obtain ⟨k, rfl, hk, hB⟩ := hrel
    by_cases hlt : k < l.length
    · obtain ⟨g1', o1, rfl⟩ : ∃ b o, a = some ⟨b, o, none⟩ := by
        rcases HL.out with ⟨b, o, c, hv, -⟩ | ⟨h0, -⟩
        · injection hv with e1 e2 e3; exact ⟨b, o, e1⟩
        · rw [h0] at hlt; exact absurd hlt (Nat.not_lt_zero _)
      obtain ⟨g2', o2, rfl⟩ : ∃ b o, a' = some ⟨b, o, none⟩ := by
        rcases HL'.out with ⟨b, o, c, hv, -⟩ | ⟨h0, -⟩
        · injection hv with e1 e2 e3; exact ⟨b, o, e1⟩
        · rw [h0] at hlt; exact absurd hlt (Nat.not_lt_zero _)
      obtain ⟨x, hxk⟩ : ∃ x, l[k]? = some x := ⟨_, List.getElem?_eq_getElem hlt⟩
      obtain ⟨vx, tx, u0, u1, u2, -, -⟩ := (HL.out.below hB.out).elem hxk
      obtain ⟨vy, ty, t0, t1, t2, -, -⟩ := (HL'.out.below hB.out).elem hxk
      obtain ⟨ax, cx, ex⟩ := tx.form
      simp only [List.cons.injEq, and_true, true_and] at ex
      subst ex
      obtain ⟨ay, cy, ey⟩ := ty.form
      simp only [List.cons.injEq, and_true, true_and] at ey
      subst ey
      have HQ : Hid (∀ wz, Below wr.heap.size wr wz → Calls Try.prog 12 #[.agg #[.int .i64 x.k, .int .i64 x.n, .slice ax x.ks.length cx], .agg #[.int .i64 x.k, .int .i64 x.n, .slice ay x.ks.length cy]] wz fun e w'' => e = .returned (.bool true) ∧ Below wr.heap.size wr w'') := fun wz hz => (refSame_any wz _ _ _ _ x x (tx.below hz) (ty.below hz)).mono fun e w'' ⟨h1, h2⟩ => ⟨by rw [h1]; simp [Tp.cmp_eq], bl_tr hz h2⟩
      clear hxk HL HL' tx ty hne
      go_wp2
      go_region_with (go_at_call 12; refine (HQ.out _ (bl_dr (Below.refl _ _))).mono ?_; rintro e w2 ⟨rfl, hb2⟩)
      all_goals go_wp2
      all_goals go_roundw
      all_goals (try case measure => simp [intOf]; omega)
      all_goals exact ⟨k + 1, by go_num, by omega, bl_tr hB.out hb2⟩
    · clear HL HL' hne
      go_wp2
      go_ret
      exact ⟨rfl, hB.out⟩
end Go.Proofs.Ythijckdhndbdoaa
