/- Being at least as general is an order: plain mathematics; Canonical, Alike. -/
import Derived.Test.YthijckdhndbdoaaTsB
import Derived.Test.YthijckdhndbdoaaTsZ
namespace Go.Proofs.Ythijckdhndbdoaa
open Go.RowKit
set_option linter.unusedVariables false
set_option linter.unusedSimpArgs false

mutual
theorem Tp.inst_gen : ∀ t : Tp, t.right = true → Tp.inst (fun n => .mk 8 n []) t = t
  | .mk k n ks, h => by
    rw [Tp.inst]
    by_cases hk : k = 8
    · have := (Tp.right_gen h hk).2
      simp only [Tp.ks] at this
      rw [if_pos hk, hk, this]
    · rw [Tp.right, Bool.and_eq_true] at h
      rw [if_neg hk, Tp.instL_gen ks h.2]
theorem Tp.instL_gen : ∀ l : List Tp, Tp.rightL l = true → Tp.instL (fun n => .mk 8 n []) l = l
  | [], h => by rw [Tp.instL]
  | x :: r, h => by
    rw [Tp.rightL, Bool.and_eq_true] at h
    rw [Tp.instL, Tp.inst_gen x h.1, Tp.instL_gen r h.2]
end
mutual
theorem Tp.inst_inst (σ τ : Int → Tp) : ∀ t : Tp, Tp.inst σ (Tp.inst τ t) = Tp.inst (fun n => Tp.inst σ (τ n)) t
  | .mk k n ks => by
    rw [Tp.inst, Tp.inst]
    by_cases hk : k = 8
    · rw [if_pos hk, if_pos hk]
    · rw [if_neg hk, if_neg hk, Tp.inst, if_neg hk, Tp.instL_inst σ τ ks]
theorem Tp.instL_inst (σ τ : Int → Tp) : ∀ l : List Tp, Tp.instL σ (Tp.instL τ l) = Tp.instL (fun n => Tp.inst σ (τ n)) l
  | [] => by rw [Tp.instL, Tp.instL, Tp.instL]
  | x :: r => by rw [Tp.instL, Tp.instL, Tp.instL, Tp.inst_inst σ τ x, Tp.instL_inst σ τ r]
end
mutual
/-- What is put in is right, if what comes is. -/
theorem Tp.inst_right (τ : Int → Tp) : ∀ (t : Tp) (n : Int), t.right = true → (Tp.inst τ t).right = true → n ∈ Tp.all 8 t → (τ n).right = true
  | .mk k m ks, n, ht, hr, hn => by
    rw [Tp.all] at hn
    rw [Tp.inst] at hr
    by_cases hk : k = 8
    · have hz := (Tp.right_gen ht hk).2
      simp only [Tp.ks] at hz
      subst hz
      rw [if_pos hk, Tp.allL] at hn
      simp at hn
      rw [if_pos hk] at hr
      rw [hn]; exact hr
    · rw [if_neg hk, List.nil_append] at hn
      rw [if_neg hk, Tp.right, Bool.and_eq_true] at hr
      rw [Tp.right, Bool.and_eq_true] at ht
      exact Tp.instL_right τ ks n ht.2 hr.2 hn
theorem Tp.instL_right (τ : Int → Tp) : ∀ (l : List Tp) (n : Int), Tp.rightL l = true → Tp.rightL (Tp.instL τ l) = true → n ∈ Tp.allL 8 l → (τ n).right = true
  | [], n, ht, hr, hn => by rw [Tp.allL] at hn; cases hn
  | x :: r, n, ht, hr, hn => by
    rw [Tp.allL] at hn
    rw [Tp.instL, Tp.rightL, Bool.and_eq_true] at hr
    rw [Tp.rightL, Bool.and_eq_true] at ht
    rcases List.mem_append.1 hn with hn | hn
    · exact Tp.inst_right τ x n ht.1 hr.1 hn
    · exact Tp.instL_right τ r n ht.2 hr.2 hn
end
mutual
theorem Tp.all_rho (ρ : Int → Int) : ∀ t : Tp, t.right = true → Tp.all 8 (Tp.inst (fun n => .mk 8 (ρ n) []) t) = (Tp.all 8 t).map ρ
  | .mk k n ks, h => by
    rw [Tp.inst]
    by_cases hk : k = 8
    · have hz := (Tp.right_gen h hk).2
      simp only [Tp.ks] at hz
      rw [if_pos hk, Tp.all, Tp.all, if_pos rfl, if_pos hk, hz]
      simp [Tp.allL]
    · rw [Tp.right, Bool.and_eq_true] at h
      rw [if_neg hk, Tp.all, Tp.all, if_neg hk, List.nil_append, List.nil_append, Tp.allL_rho ρ ks h.2]
theorem Tp.allL_rho (ρ : Int → Int) : ∀ l : List Tp, Tp.rightL l = true → Tp.allL 8 (Tp.instL (fun n => .mk 8 (ρ n) []) l) = (Tp.allL 8 l).map ρ
  | [], h => by rw [Tp.instL, Tp.allL]; rfl
  | x :: r, h => by
    rw [Tp.rightL, Bool.and_eq_true] at h
    rw [Tp.instL, Tp.allL, Tp.allL, List.map_append, Tp.all_rho ρ x h.1, Tp.allL_rho ρ r h.2]
end
theorem dd_inj (ρ : Int → Int) : ∀ (xs l : List Int), (∀ x, x ∈ l ++ xs → ∀ y, y ∈ l ++ xs → ρ x = ρ y → x = y) → dd (l.map ρ) (xs.map ρ) = (dd l xs).map ρ
  | [], l, h => rfl
  | y :: r, l, h => by
    show dd (Tp.ins (l.map ρ) (ρ y)) (r.map ρ) = (dd (Tp.ins l y) r).map ρ
    have hsub : ∀ x, x ∈ Tp.ins l y ++ r → x ∈ l ++ y :: r := by
      intro x hx
      rcases List.mem_append.1 hx with hx | hx
      · rcases mem_ins.1 hx with hx | hx
        · exact List.mem_append_left _ hx
        · exact List.mem_append_right _ (by rw [hx]; simp)
      · exact List.mem_append_right _ (List.mem_cons_of_mem _ hx)
    rw [← dd_inj ρ r (Tp.ins l y) (fun x hx z hz => h x (hsub x hx) z (hsub z hz))]
    congr 1
    unfold Tp.ins
    by_cases hm : y ∈ l
    · rw [if_pos hm, if_pos (List.mem_map.2 ⟨y, hm, rfl⟩)]
    · rw [if_neg hm, if_neg, List.map_append]
      · rfl
      · intro h2
        obtain ⟨z, hz, e⟩ := List.mem_map.1 h2
        exact hm ((h z (List.mem_append_left _ hz) y (List.mem_append_right _ (by simp)) e) ▸ hz)
theorem mat_refl {g : Int} {t : Tp} : MatOk g g t t ↔ Tp.rightS g t = true := ⟨fun h => h.1, fun h => ⟨h, h, _, Tp.inst_gen t (rightS_right h)⟩⟩
theorem mat_trans {ga gb gc : Int} {a b c : Tp} (h : MatOk ga gb a b) (k : MatOk gb gc b c) : MatOk ga gc a c := by
  obtain ⟨h1, h2, τ, h3⟩ := h
  obtain ⟨k1, k2, σ, k3⟩ := k
  exact ⟨h1, k2, _, by rw [← k3, ← h3, Tp.inst_inst]⟩
/-- P1202: alike ones are the same. -/
theorem mat_alike {ga gb : Int} {a b : Tp} (h : MatOk ga gb a b) (k : MatOk gb ga b a) : ga = gb ∧ a = b := by
  obtain ⟨h1, h2, τ, h3⟩ := h
  obtain ⟨-, -, σ, k3⟩ := k
  have ra := rightS_right h1
  have rb := rightS_right h2
  have hid1 : Tp.inst (fun n => Tp.inst σ (τ n)) a = Tp.inst (fun n => .mk 8 n []) a := by rw [← Tp.inst_inst, h3, k3, Tp.inst_gen a ra]
  have hpt := Tp.inst_inj _ _ a ra hid1
  have hτ : ∀ n ∈ Tp.all 8 a, τ n = .mk 8 (τ n).n [] ∧ σ (τ n).n = .mk 8 n [] := by
    intro n hn
    have e := hpt n hn
    have hr : (τ n).right = true := Tp.inst_right τ a n ra (by rw [h3]; exact rb) hn
    by_cases hk : (τ n).k = 8
    · refine ⟨?_, by rw [Tp.inst_8 σ hk] at e; exact e⟩
      have hz := (Tp.right_gen hr hk).2
      rw [Tp.eta12 (τ n), hk, hz]
      rfl
    · rw [Tp.inst_no σ hk] at e
      injection e with e1
      exact absurd e1 hk
  have hb : b = Tp.inst (fun n => .mk 8 (τ n).n []) a := by rw [← h3]; exact Tp.inst_congr _ _ a (fun n hn => (hτ n hn).1)
  have hall : Tp.all 8 b = (Tp.all 8 a).map fun n => (τ n).n := by rw [hb]; exact Tp.all_rho _ a ra
  have hinj : ∀ x, x ∈ [] ++ Tp.all 8 a → ∀ y, y ∈ [] ++ Tp.all 8 a → (τ x).n = (τ y).n → x = y := by
    intro x hx y hy e
    have e1 := (hτ x hx).2
    have e2 := (hτ y hy).2
    rw [e, e2] at e1
    injection e1 with _ e1
    exact e1.symm
  have hf : Tp.found 8 b [] = (Tp.found 8 a []).map fun n => (τ n).n := by
    rw [Tp.found_dd, Tp.found_dd, hall]
    exact dd_inj _ (Tp.all 8 a) [] hinj
  unfold Tp.rightS at h1 h2
  simp only [Bool.and_eq_true, decide_eq_true_eq] at h1 h2
  have hlen : (Tp.found 8 b []).length = (Tp.found 8 a []).length := by rw [hf, List.length_map]
  have hg : ga = gb := by rw [← h1.2.2, ← h2.2.2, hlen]
  refine ⟨hg, ?_⟩
  have ea := ups_range _ 0 h1.2.1
  have eb := ups_range _ 0 h2.2.1
  rw [hlen, ← ea, hf] at eb
  have hid2 : ∀ n ∈ Tp.all 8 a, (τ n).n = n := by
    intro n hn
    have hn2 := Tp.mem_fnd.2 hn
    obtain ⟨i, hi⟩ := List.getElem?_of_mem hn2
    have e := congrArg (fun l => l[i]?) eb
    simp only [List.getElem?_map, hi, Option.map_some] at e
    injection e
  rw [hb]
  conv => lhs; rw [← Tp.inst_gen a ra]
  exact Tp.inst_congr _ _ a (fun n hn => by rw [hid2 n hn])
/-- The numbers of the canonical form. -/
def Tp.canL (t : Tp) : List (Int × Int) := pls 8 (Tp.found 8 t [])

set_option maxHeartbeats 4000000 in
set_option maxRecDepth 100000 in
theorem Canonical_any (w : World) (n : Nat) (g : Int) (vs : List Value) (t : Tp) (hT : TAt w Any n vs t) (hc : t.cnt ≤ 1048576) : Calls Try.prog 29 #[.agg (.int .i64 g :: vs).toArray] w fun e w' => ∃ y a n' c, Tp.ren (plf (Tp.canL t)) t = y ∧ e = .returned (.agg #[.int .i64 ((Tp.canL t).length : Nat), .int .i64 y.k, .int .i64 y.n, .slice a y.ks.length c]) ∧ TAt w' Any n' [.int .i64 y.k, .int .i64 y.n, .slice a y.ks.length c] y ∧ Below w.heap.size w w' := by
  obtain ⟨a, c, rfl⟩ := hT.form
  have hcl : (Tp.canL t).length ≤ 2097152 := by unfold Tp.canL pls; rw [List.length_map]; have := Tp.found_len 8 t; omega
  have hnd : (Tp.canL t).Nodup := by
    unfold Tp.canL pls
    rw [List.Nodup, List.pairwise_map]
    exact (Tp.found_nodup 8 t).imp fun hne e => hne (Prod.mk.inj e).2
  have HG : Hid (∀ wz, Below w.heap.size w wz → Calls Try.prog 23 #[.agg #[.int .i64 t.k, .int .i64 t.n, .slice a t.ks.length c]] wz fun e w' => ∃ v, e = .returned v ∧ Ls w' Any v (Tp.found 8 t []) ∧ Below wz.heap.size wz w') := fun wz hz => Gens_any wz n _ t (hT.below hz) hc
  have HA2 : Hid (∀ wz v', Ls wz Any v' (Tp.found 8 t []) → Pls wz (w.heap.size + 2) [] → Calls Try.prog 48 #[.map (some (w.heap.size + 2)), .int .i64 8, v'] wz fun e w' => e = .returned (.tuple #[]) ∧ Pls w' (w.heap.size + 2) (Tp.canL t) ∧ wz.grownBy w' (some (w.heap.size + 2))) :=
    fun wz v' hl hp => (add_any wz _ [] 8 v' _ hp hl r64_8 (hT.found64 8) (by rw [List.nil_append]; exact hnd) (by rw [List.nil_append]; exact hcl)).mono fun e w' h => by rw [List.nil_append] at h; exact h
  have HS : Hid (∀ wz, Below w.heap.size w wz → Pls wz (w.heap.size + 2) (Tp.canL t) → Calls Try.prog 50 #[.map (some (w.heap.size + 2)), .agg #[.int .i64 t.k, .int .i64 t.n, .slice a t.ks.length c]] wz fun e w' => ∃ y a n' c, Tp.ren (plf (Tp.canL t)) t = y ∧ e = .returned (.agg #[.int .i64 ((Tp.canL t).length : Nat), .int .i64 y.k, .int .i64 y.n, .slice a y.ks.length c]) ∧ TAt w' (fun b => wz.heap.size ≤ b) n' [.int .i64 y.k, .int .i64 y.n, .slice a y.ks.length c] y ∧ Below wz.heap.size wz w') := by
    intro wz hz hp
    refine (places_scheme wz _ _ n _ t hp hcl (hT.below hz) hc).mono ?_
    rintro e w' ⟨vs', n', rfl, h1, h2⟩
    obtain ⟨a', c', rfl⟩ := h1.form
    exact ⟨_, a', n', c', rfl, rfl, h1, h2⟩
  have HN := hid (gs_new w 26 #[.int .i64 g, .int .i64 t.k, .int .i64 t.n, .slice a t.ks.length c])
  have hm0 := @run_makeMap Try.prog
  obtain ⟨m, hm1⟩ : ∃ m, (Tp.canL t).length = m := ⟨_, rfl⟩
  rw [hm1] at HS ⊢
  generalize Tp.ren (plf (Tp.canL t)) t = yy at HS ⊢
  generalize Tp.canL t = L2 at HA2 HS
  generalize Tp.found 8 t [] = l2 at HG HA2
  clear hT hc hm1 hcl hnd
  go_enter Try.func29, Try.ntmps29
  go_wp2_with (first
    | (go_at_call 23; refine (HG.out _ HN.out.bl).mono ?_; rintro e w6 ⟨v6, rfl, hl6, hb6⟩; obtain ⟨p6, c6, rfl, -⟩ := hl6.form; have HG6 := hid (HN.out.stays hb6); have HL6 := hid hl6; clear hl6 hb6)
    | (go_at_call 48; refine (HA2.out _ _ HL6.out HG6.out.pl).mono ?_; rintro e w7 ⟨rfl, hp7, hg7⟩; have HG7 := hid (HG6.out.grown hg7 hp7); have q7 := HG7.out.box.cell; clear hp7 hg7)
    | (go_at_call 50; refine (HS.out _ HG7.out.bl HG7.out.pl).mono ?_; rintro e w8 ⟨y, a8, n8, c8, hy8, rfl, hT8, hb8⟩; have HG8 := hid (HG7.out.stays hb8); have HT8 := hid hT8; have HY8 := hid hy8; have q8 := HG8.out.res.cell; have q9 := HG8.out.res.frozen; clear hT8 hb8 hy8))
  refine bodyPost_ret (v := .agg #[.int .i64 (m : Nat), .int .i64 y.k, .int .i64 y.n, .slice a8 y.ks.length c8]) (by rw [results_cell1 (fn := Try.f29) (p := 2) (ty := 26) (by kernel_rfl)]; simp [go_sem, q8, q9]) rfl ?_
  have hK : ∀ (W : World) j u, Keeps (fun b => w.heap.size + 2 < b) W (W.setCell ⟨w.heap.size + 1, j, none⟩ u) := fun W j u => Keeps.set (K := fun b => w.heap.size + 2 < b) (p := ⟨w.heap.size + 1, j, none⟩) (fun h => by simp at h) u
  have hs : ∀ (W : World) j u, Below w.heap.size w W → Below w.heap.size w (W.setCell ⟨w.heap.size + 1, j, none⟩ u) := fun W j u h => bl_set _ _ h (by show _ ≤ w.heap.size + 1; omega)
  have hlt := HG7.out.pl.lt
  refine ⟨y, a8, n8, c8, HY8.out, rfl, ?_, hs _ _ _ (hs _ _ _ (hs _ _ _ (hs _ _ _ HG8.out.bl)))⟩
  exact (HT8.out.move (K' := fun b => w.heap.size + 2 < b) (Keeps.refl _ _) (fun b hb => by omega)).move ((((hK _ _ _).trans (hK _ _ _)).trans (hK _ _ _)).trans (hK _ _ _)) (fun b hb => trivial)

set_option maxHeartbeats 1000000 in
set_option maxRecDepth 100000 in
theorem Alike_any (w : World) (na nb : Nat) (ga gb : Int) (va vb : List Value) (a b : Tp) (ha : TAt w Any na va a) (hb : TAt w Any nb vb b) (hca : a.cnt ≤ 1048576) (hcb : b.cnt ≤ 1048576) (r1 r2 : Bool) (h1 : r1 = true ↔ MatOk ga gb a b) (h2 : r2 = true ↔ MatOk gb ga b a) :
    Calls Try.prog 19 #[.agg (.int .i64 ga :: va).toArray, .agg (.int .i64 gb :: vb).toArray] w fun e w' => e = .returned (.bool (r1 && r2)) ∧ Below w.heap.size w w' := by
  obtain ⟨a1, c1, rfl⟩ := ha.form
  obtain ⟨b1, d1, rfl⟩ := hb.form
  have HBB : Hid (∀ o o', Below w.heap.size w ((w.alloc o).alloc o')) := fun o o' => bl_alloc (bl_alloc (Below.refl _ _) _) _
  have HA0 : Hid (∀ o, Arr ((w.alloc (.cells #[.int .i64 ga, .int .i64 a.k, .int .i64 a.n, .slice a1 a.ks.length c1] 26)).alloc o) w.heap.size 26 [.int .i64 ga, .int .i64 a.k, .int .i64 a.n, .slice a1 a.ks.length c1]) := fun o => Arr.stays ⟨heap_alloc_at _ _⟩ (bl_alloc (Below.refl _ _) _)
  have HA1 : Hid (∀ o, Arr ((w.alloc o).alloc (.cells #[.int .i64 gb, .int .i64 b.k, .int .i64 b.n, .slice b1 b.ks.length d1] 26)) (w.heap.size + 1) 26 [.int .i64 gb, .int .i64 b.k, .int .i64 b.n, .slice b1 b.ks.length d1]) := fun o => ⟨by have := heap_alloc_at (w.alloc o) (.cells #[.int .i64 gb, .int .i64 b.k, .int .i64 b.n, .slice b1 b.ks.length d1] 26); rw [size_alloc] at this; exact this⟩
  have L1 : Hid (∀ wz, Below w.heap.size w wz → Calls Try.prog 17 #[.agg #[.int .i64 ga, .int .i64 a.k, .int .i64 a.n, .slice a1 a.ks.length c1], .agg #[.int .i64 gb, .int .i64 b.k, .int .i64 b.n, .slice b1 b.ks.length d1]] wz fun e w' => e = .returned (.bool r1) ∧ Below wz.heap.size wz w') := fun wz hz => AtLeast_any wz na nb ga gb _ _ a b (ha.below hz) (hb.below hz) hca hcb r1 h1
  have L2 : Hid (∀ wz, Below w.heap.size w wz → Calls Try.prog 17 #[.agg #[.int .i64 gb, .int .i64 b.k, .int .i64 b.n, .slice b1 b.ks.length d1], .agg #[.int .i64 ga, .int .i64 a.k, .int .i64 a.n, .slice a1 a.ks.length c1]] wz fun e w' => e = .returned (.bool r2) ∧ Below wz.heap.size wz w') := fun wz hz => AtLeast_any wz nb na gb ga _ _ b a (hb.below hz) (ha.below hz) hcb hca r2 h2
  clear ha hb hca hcb h1 h2
  have m1 : Hid True := trivial
  cases r1 with
  | false =>
    go_enter Try.func19, Try.ntmps19
    go_wp2_with (go_at_call 17; refine (L1.out _ (HBB.out _ _)).mono ?_; rintro e w3 ⟨rfl, hb3⟩; have HB3 := hid (bl_tr (HBB.out _ _) hb3); clear hb3)
    go_ret
    exact ⟨rfl, HB3.out⟩
  | true =>
    go_enter Try.func19, Try.ntmps19
    go_wp2_with (first | (go_at_call 17; have := m1; refine (L1.out _ (HBB.out _ _)).mono ?_; rintro e w3 ⟨rfl, hb3⟩; have HB3 := hid (bl_tr (HBB.out _ _) hb3); have q0 := ((HA0.out _).stays hb3).cell; have q1 := ((HA1.out _).stays hb3).cell; clear hb3 m1) | (go_at_call 17; refine (L2.out _ HB3.out).mono ?_; rintro e w4 ⟨rfl, hb4⟩; have HB4 := hid (bl_tr HB3.out hb4); clear hb4))
    go_ret
    exact ⟨by simp, HB4.out⟩
end Go.Proofs.Ythijckdhndbdoaa
