/- How great, how deep what comes of a structure is, and which numbers may be free in it: plain mathematics. What any structure in memory comes to. -/
import Derived.Test.YtigliglmejkakaaGreatRbi
namespace Go.Proofs.YtigliglmejkakaaGreat
open Go.RowKit Go.Shelf Go.Sort
set_option linter.unusedVariables false
set_option linter.unusedSimpArgs false

theorem fv_less {y : Tgt.Tt} {e : List (Int × Int)} {x : Int} (h : y.fv e x = true) : y.fv [] x = true := Tgt.Tt.fv_weak x y e [] (fun _ => rfl) h
theorem fvL_mem {x : Int} {e : List (Int × Int)} : ∀ {l : List Tgt.Tt}, Tgt.Tt.fvL l e x = true → ∃ y ∈ l, y.fv e x = true
  | [], h => by rw [Tgt.Tt.fvL] at h; cases h
  | y :: r, h => by
    rw [Tgt.Tt.fvL, Bool.or_eq_true] at h
    rcases h with h | h
    · exact ⟨y, List.mem_cons_self, h⟩
    · obtain ⟨z, hz, hf⟩ := fvL_mem h
      exact ⟨z, List.mem_cons_of_mem _ hz, hf⟩
theorem fvL_of {x : Int} {e : List (Int × Int)} : ∀ {l : List Tgt.Tt} {y : Tgt.Tt}, y ∈ l → y.fv e x = true → Tgt.Tt.fvL l e x = true
  | z :: r, y, h, hf => by
    rw [Tgt.Tt.fvL, Bool.or_eq_true]
    rcases List.mem_cons.1 h with rfl | h
    · exact .inl hf
    · exact .inr (fvL_of h hf)
theorem fv_kid {k n x : Int} {ls : List ByteArray} {ks : List Tgt.Tt} (hk : k ≠ 6) (h : (Tgt.Tt.mk k n ls ks).fv [] x = true) : ∃ y ∈ ks, y.fv [] x = true := by
  rw [Tgt.Tt.fv_mk] at h
  have hk' : ((Tgt.Tt.mk k n ls ks).k == 6) = false := by simpa [Tgt.Tt.k] using hk
  rw [hk', Bool.false_and, Bool.false_or] at h
  obtain ⟨y, hy, hf⟩ := fvL_mem h
  exact ⟨y, hy, fv_less hf⟩
theorem fv_around {k x : Int} (hk : k ≠ 6) {y : Tgt.Tt} : ∀ {l : List Int}, (Tt.around k l y).fv [] x = true → y.fv [] x = true
  | [], h => h
  | n :: r, h => by
    have h : (Tgt.Tt.mk k n [] [Tt.around k r y]).fv [] x = true := h
    obtain ⟨z, hz, hf⟩ := fv_kid hk h
    obtain rfl : z = Tt.around k r y := by simpa using hz
    exact fv_around hk hf
theorem around_deep (k : Int) (y : Tgt.Tt) : ∀ l : List Int, (Tt.around k l y).deepest = y.deepest + l.length
  | [] => rfl
  | n :: r => by
    show (Tgt.Tt.mk k n [] [Tt.around k r y]).deepest = _
    rw [Tgt.Tt.deepest, Tgt.Tt.deepestL, Tgt.Tt.deepestL, around_deep k y r, List.length_cons]
    omega
theorem deepestL_le {B : Nat} : ∀ {l : List Tgt.Tt}, (∀ y ∈ l, y.deepest ≤ B) → Tgt.Tt.deepestL l ≤ B
  | [], _ => by rw [Tgt.Tt.deepestL]; exact Nat.zero_le _
  | y :: r, h => by
    rw [Tgt.Tt.deepestL]
    have h1 := h y List.mem_cons_self
    have h2 := deepestL_le (l := r) fun z hz => h z (List.mem_cons_of_mem _ hz)
    omega

/-- How great an answer may be. -/
structure Bnd (y : Tgt.Tt) (W : Nat) : Prop where
  c : y.cnt ≤ 4 * W + 4
  d : y.deepest ≤ 2 * W + 4
  k : ∃ K : List Int, K.length ≤ 2 * W ∧ ∀ x, y.fv [] x = true → x ∈ K
theorem zero_fv (x : Int) : zeroA.fv [] x = false := by
  unfold zeroA
  rw [Tgt.Tt.fv_mk]
  simp [Tgt.Tt.k, Tgt.Tt.ks, Tgt.Tt.fvL]
theorem zero_cnt : zeroA.cnt = 1 := leaf_cnt 0 0
theorem zero_deep : zeroA.deepest = 1 := by unfold zeroA; rw [Tgt.Tt.deepest, Tgt.Tt.deepestL]
theorem Bnd.zero (W : Nat) : Bnd zeroA W := ⟨by rw [zero_cnt]; omega, by rw [zero_deep]; omega, [], Nat.zero_le _, fun x h => by rw [zero_fv] at h; cases h⟩

/-- Likewise of fields. -/
structure FB (fl : List (ByteArray × An)) (W : Nat) : Prop where
  c : (fl.map fun x => x.2.1.cnt).sum ≤ 4 * W
  d : ∀ x ∈ fl, x.2.1.deepest ≤ 2 * W + 3
  k : ∃ K : List Int, K.length ≤ 2 * W ∧ ∀ x ∈ fl, ∀ z, x.2.1.fv [] z = true → z ∈ K
theorem FB.nil : FB [] 0 := ⟨by simp, (fun x h => by cases h), [], Nat.le_refl _, (fun x h => by cases h)⟩
theorem FB.app {a b : List (ByteArray × An)} {V W : Nat} (h : FB a V) (g : FB b W) : FB (a ++ b) (V + W) := by
  obtain ⟨K, hK, hk⟩ := h.k
  obtain ⟨L, hL, hl⟩ := g.k
  refine ⟨?_, ?_, K ++ L, ?_, ?_⟩
  · rw [List.map_append, List.sum_append]; have := h.c; have := g.c; omega
  · intro x hx
    rcases List.mem_append.1 hx with hx | hx
    · have := h.d x hx; omega
    · have := g.d x hx; omega
  · rw [List.length_append]; omega
  · intro x hx z hz
    rcases List.mem_append.1 hx with hx | hx
    · exact List.mem_append.2 (.inl (hk x hx z hz))
    · exact List.mem_append.2 (.inr (hl x hx z hz))
theorem FB.le {a : List (ByteArray × An)} {V W : Nat} (h : FB a V) (hle : V ≤ W) : FB a W := by
  obtain ⟨K, hK, hk⟩ := h.k
  exact ⟨by have := h.c; omega, fun x hx => by have := h.d x hx; omega, K, by omega, hk⟩
theorem FB.one {nm : ByteArray} {a : An} {W : Nat} (hc : a.1.cnt ≤ 4 * W) (hd : a.1.deepest ≤ 2 * W + 3) (hk : ∃ K : List Int, K.length ≤ 2 * W ∧ ∀ z, a.1.fv [] z = true → z ∈ K) : FB [(nm, a)] W := by
  obtain ⟨K, hK, hk⟩ := hk
  refine ⟨by simpa using hc, fun x hx => ?_, K, hK, fun x hx => ?_⟩
  · obtain rfl : x = (nm, a) := by simpa using hx
    exact hd
  · obtain rfl : x = (nm, a) := by simpa using hx
    exact hk
theorem FB.sub {nm : ByteArray} {a : An} {W V : Nat} (h : Bnd a.1 W) (hv : W + 2 ≤ V) : FB [(nm, a)] V := by
  obtain ⟨K, hK, hk⟩ := h.k
  exact FB.one (by have := h.c; omega) (by have := h.d; omega) ⟨K, by omega, hk⟩
theorem FB.rows {α : Type} {f : α → ByteArray × An} {g : α → Nat} : ∀ {l : List α}, (∀ x ∈ l, FB [f x] (g x)) → FB (l.map f) ((l.map g).sum)
  | [], _ => FB.nil
  | x :: r, h => by
    rw [List.map_cons, List.map_cons, List.sum_cons]
    exact FB.app (a := [f x]) (h x List.mem_cons_self) (FB.rows fun z hz => h z (List.mem_cons_of_mem _ hz))
/-- The sum of what stands at the places is no more than the sum of the fields. -/
theorem fill_sum {ys : List (List UInt8)} (hi : ∀ (p q : Nat) z, ys[p]? = some z → ys[q]? = some z → p = q) : ∀ fl : List (ByteArray × An), ((List.range ys.length).map fun p => match fillF ys fl p with | some y => y.cnt | none => 0).sum ≤ (fl.map fun x => x.2.1.cnt).sum
  | [] => by
    have : ∀ n : Nat, ((List.range n).map fun p => match fillF ys [] p with | some y => y.cnt | none => 0).sum = 0 := fun n => by
      induction n with
      | zero => rfl
      | succ n ih => rw [List.range_succ, List.map_append, List.sum_append, ih]; rfl
    rw [this]; exact Nat.zero_le _
  | x :: r => by
    have ih := fill_sum hi r
    rw [List.map_cons, List.sum_cons]
    have key : ∀ n : Nat, ((List.range n).map fun p => match fillF ys (x :: r) p with | some y => y.cnt | none => 0).sum ≤ ((List.range n).map fun p => match fillF ys r p with | some y => y.cnt | none => 0).sum + (if ∃ p, p < n ∧ ys[p]? = some x.1.data.toList then x.2.1.cnt else 0) := fun n => by
      induction n with
      | zero => simp
      | succ n ihn =>
        rw [List.range_succ, List.map_append, List.sum_append, List.map_append, List.sum_append]
        simp only [List.map_cons, List.map_nil, List.sum_cons, List.sum_nil, Nat.add_zero]
        by_cases hn : ys[n]? = some x.1.data.toList
        · have hno : ¬ ∃ p, p < n ∧ ys[p]? = some x.1.data.toList := fun ⟨p, hp, hq⟩ => by have := hi p n _ hq hn; omega
          rw [if_neg hno] at ihn
          rw [if_pos ⟨n, Nat.lt_succ_self n, hn⟩]
          have : (match fillF ys (x :: r) n with | some y => y.cnt | none => 0) ≤ (match fillF ys r n with | some y => y.cnt | none => 0) + x.2.1.cnt := by
            simp only [fillF]
            cases fillF ys r n with
            | some z => simp
            | none => simp [hn]
          omega
        · have : (match fillF ys (x :: r) n with | some y => y.cnt | none => 0) = (match fillF ys r n with | some y => y.cnt | none => 0) := by
            simp only [fillF]
            cases fillF ys r n with
            | some z => simp
            | none => simp [hn]
          have hiff : (∃ p, p < n + 1 ∧ ys[p]? = some x.1.data.toList) ↔ ∃ p, p < n ∧ ys[p]? = some x.1.data.toList := ⟨fun ⟨p, hp, hq⟩ => ⟨p, by rcases Nat.lt_or_eq_of_le (Nat.le_of_lt_succ hp) with h | h; exact h; subst h; exact absurd hq hn, hq⟩, fun ⟨p, hp, hq⟩ => ⟨p, by omega, hq⟩⟩
          rw [this]
          by_cases hex : ∃ p, p < n ∧ ys[p]? = some x.1.data.toList
          · rw [if_pos (hiff.2 hex)]; rw [if_pos hex] at ihn; omega
          · rw [if_neg (fun h => hex (hiff.1 h))]; rw [if_neg hex] at ihn; omega
    have := key ys.length
    split at this <;> omega
theorem cntL_sum : ∀ l : List Tgt.Tt, Tgt.Tt.cntL l = (l.map Tgt.Tt.cnt).sum
  | [] => by rw [Tgt.Tt.cntL]; rfl
  | x :: r => by rw [Tgt.Tt.cntL, cntL_sum r, List.map_cons, List.sum_cons]
theorem setOf_is (xs : List (List UInt8)) (h : ∃ ys, IsSet xs ys) : IsSet xs (setOf xs) := by
  obtain ⟨ys, hy⟩ := h
  rw [setOf_eq hy]; exact hy
theorem fill_mem {ys : List (List UInt8)} : ∀ {fl : List (ByteArray × An)} {p : Nat} {y : Tgt.Tt}, fillF ys fl p = some y → ∃ x ∈ fl, x.2.1 = y
  | [], p, y, h => by cases h
  | x :: r, p, y, h => by
    simp only [fillF] at h
    cases hr : fillF ys r p with
    | some z =>
      rw [hr] at h
      obtain ⟨u, hu, e⟩ := fill_mem hr
      exact ⟨u, List.mem_cons_of_mem _ hu, by rw [e]; simpa using h⟩
    | none =>
      rw [hr] at h
      by_cases hp : ys[p]? = some x.1.data.toList
      · simp only [if_pos hp] at h
        exact ⟨x, List.mem_cons_self, by simpa using h⟩
      · simp only [if_neg hp] at h
        cases h
theorem recA_bnd {fl : List (ByteArray × An)} {W : Nat} (hs : ∃ ys, IsSet (labsOf fl) ys) (h : FB fl W) : Bnd (recA fl).1 W := by
  unfold recA
  split
  · exact Bnd.zero W
  split
  · exact Bnd.zero W
  have hset := setOf_is _ hs
  generalize hY : setOf (labsOf fl) = ys at hset
  have hat : ∀ (i : Nat) y, (kidsOf ys fl)[i]? = some y → fillF ys fl i = some y := fun i y hy => kidsOf_at hset hy
  have hmem : ∀ y ∈ kidsOf ys fl, ∃ x ∈ fl, x.2.1 = y := fun y hy => by
    obtain ⟨i, hi⟩ := List.mem_iff_getElem?.1 hy
    exact fill_mem (hat i y hi)
  refine ⟨?_, ?_, ?_⟩
  · show (Tgt.Tt.mk 7 0 _ _).cnt ≤ _
    rw [Tgt.Tt.cnt, cntL_sum]
    have e : (kidsOf ys fl).map Tgt.Tt.cnt = (List.range ys.length).map fun p => match fillF ys fl p with | some y => y.cnt | none => 0 := by
      apply List.ext_getElem?
      intro i
      rw [List.getElem?_map, List.getElem?_map]
      by_cases hi : i < ys.length
      · obtain ⟨y, hy⟩ : ∃ y, (kidsOf ys fl)[i]? = some y := ⟨_, List.getElem?_eq_getElem (by rw [kidsOf_len]; exact hi)⟩
        rw [hy, List.getElem?_range hi]
        simp only [Option.map_some]
        rw [hat i y hy]
      · rw [List.getElem?_eq_none (by rw [kidsOf_len]; omega), List.getElem?_eq_none (by rw [List.length_range]; omega)]
        rfl
    rw [e]
    have := fill_sum (ys := ys) (fun p q z hp hq => hset.ascA.inj hp hq) fl
    have := h.c
    omega
  · show (Tgt.Tt.mk 7 0 _ _).deepest ≤ _
    rw [Tgt.Tt.deepest]
    have := deepestL_le (B := 2 * W + 3) (l := kidsOf ys fl) fun y hy => by
      obtain ⟨x, hx, rfl⟩ := hmem y hy
      exact h.d x hx
    omega
  · obtain ⟨K, hK, hk⟩ := h.k
    refine ⟨K, hK, fun z hz => ?_⟩
    obtain ⟨y, hy, hf⟩ := fv_kid (by decide) hz
    obtain ⟨x, hx, rfl⟩ := hmem y hy
    exact hk x hx z hf
theorem hidA_bnd {l : List Int} {a : An} {W V : Nat} (h : Bnd a.1 W) (hv : W + l.length ≤ V) : Bnd (hidA l a).1 V := by
  unfold hidA
  split
  · split
    · obtain ⟨K, hK, hk⟩ := h.k
      refine ⟨?_, ?_, K, by omega, fun x hx => hk x (fv_around (by decide) hx)⟩
      · show (Tt.around 11 l a.1).cnt ≤ _; rw [around_cnt]; have := h.c; omega
      · show (Tt.around 11 l a.1).deepest ≤ _; rw [around_deep]; have := h.d; omega
    · exact Bnd.zero _
  · exact Bnd.zero _
theorem funA_fb {nm : ByteArray} {l : List Int} {a b : An} {W V U : Nat} (h : Bnd a.1 W) (g : Bnd b.1 V) (hv : W + V + l.length + 6 ≤ U) : FB [(nm, funA l a b)] U := by
  unfold funA
  have hz : ∀ e : Int, FB [(nm, ((zeroA, e) : An))] U := fun e => FB.sub (Bnd.zero 0) (by omega)
  split
  · split
    · split
      · obtain ⟨K, hK, hk⟩ := h.k
        obtain ⟨L, hL, hl⟩ := g.k
        refine FB.one ?_ ?_ ⟨K ++ L, by rw [List.length_append]; omega, fun x hx => ?_⟩
        · show (Tt.around 10 l _).cnt ≤ _
          rw [around_cnt, Tgt.Tt.cnt, Tgt.Tt.cntL, Tgt.Tt.cntL, Tgt.Tt.cntL]
          have := h.c; have := g.c; omega
        · show (Tt.around 10 l _).deepest ≤ _
          rw [around_deep, Tgt.Tt.deepest, Tgt.Tt.deepestL, Tgt.Tt.deepestL, Tgt.Tt.deepestL]
          have := h.d; have := g.d; omega
        · obtain ⟨y, hy, hf⟩ := fv_kid (by decide) (fv_around (by decide) hx)
          rcases List.mem_cons.1 hy with rfl | hy
          · exact List.mem_append.2 (.inl (hk x hf))
          · obtain rfl : y = b.1 := by simpa using hy
            exact List.mem_append.2 (.inr (hl x hf))
      · exact hz _
    · exact hz _
  · exact hz _
theorem valA_fb (x : Vm) : FB [(x.nm, valA x)] x.wt := by
  unfold valA ansB
  cases hok : Tp.okS x.g x.t with
  | false => exact FB.one (a := (zeroA, 1)) (by rw [zero_cnt]; unfold Vm.wt; omega) (by rw [zero_deep]; omega) ⟨[], Nat.zero_le _, fun z h => by rw [zero_fv] at h; cases h⟩
  | true =>
    have hg : x.g.toNat ≤ x.t.cnt := by
      unfold Tp.okS Tp.rightS at hok
      simp only [Bool.and_eq_true, decide_eq_true_eq] at hok
      have := Tp.found_lenD 8 x.t []
      have h2 := hok.1.2.2
      simp only [List.length_nil, Nat.zero_add] at this
      omega
    have hc := schemeT_cnt x.g x.t
    have hd := Tgt.Tt.deepest_le (x.t.schemeT x.g)
    refine FB.one (a := (x.t.schemeT x.g, 0)) ?_ ?_ ⟨(x.t.schemeT x.g).nums, ?_, fun z hz => Tgt.Tt.fv_nums z _ [] hz⟩
    · show (x.t.schemeT x.g).cnt ≤ _; unfold Vm.wt; omega
    · show (x.t.schemeT x.g).deepest ≤ _
      unfold Tp.schemeT
      rw [around_deep, numsT_len]
      have h1 := Tgt.Tt.deepest_le (Tp.made (topK (Tp.found 6 x.t [])) x.t)
      have h2 := made_cnt (topK (Tp.found 6 x.t [])) x.t
      unfold Vm.wt
      omega
    · rw [Tgt.Tt.nums_len]; unfold Vm.wt; omega
theorem outA_fb (x : Tm) (c : List Ct) (hc : ∀ y ∈ c, y ∈ x.cs) : ∀ z ∈ (labO x.nm, outA x) :: c.map (fun c => (labC c.nm, conA x.t.n c)), ∀ v, z.2.1.fv [] v = true → v ∈ (Tp.made 0 x.t).nums ++ (sumT x.cs).nums ++ [x.t.n] := by
  intro z hz v hv
  rcases List.mem_cons.1 hz with rfl | hz
  · unfold outA ansB at hv
    cases hb : (decide (x.t.k = 6) && (x.t.okT && okSum x.cs)) with
    | false => rw [hb] at hv; have hv : zeroA.fv [] v = true := hv; rw [zero_fv] at hv; cases hv
    | true =>
      rw [hb] at hv
      have hv : (Tgt.Tt.mk 4 0 [] [Tp.made 0 x.t, sumT x.cs]).fv [] v = true := hv
      obtain ⟨y, hy, hf⟩ := fv_kid (by decide) hv
      rcases List.mem_cons.1 hy with rfl | hy
      · exact List.mem_append.2 (.inl (List.mem_append.2 (.inl (Tgt.Tt.fv_nums v _ [] hf))))
      · obtain rfl : y = sumT x.cs := by simpa using hy
        exact List.mem_append.2 (.inl (List.mem_append.2 (.inr (Tgt.Tt.fv_nums v _ [] hf))))
  · obtain ⟨d, hd, rfl⟩ := List.mem_map.1 hz
    have hv : (conA x.t.n d).1.fv [] v = true := hv
    unfold conA ansB at hv
    cases hb : okC x.t.n d with
    | false => rw [hb] at hv; have hv : zeroA.fv [] v = true := hv; rw [zero_fv] at hv; cases hv
    | true =>
      rw [hb] at hv
      have hv : (conT x.t.n d).fv [] v = true := hv
      have hleaf : ∀ s : Int, (Tgt.Tt.mk 6 s [] []).fv [] v = true → v = s := fun s h => by
        rw [Tgt.Tt.fv_mk] at h
        simp [Tgt.Tt.k, Tgt.Tt.n, Tgt.Tt.ks, Tgt.Tt.fvL] at h
        exact h.1.symm
      unfold conT at hv
      cases ha : d.args with
      | nil =>
        rw [ha] at hv
        rw [hleaf _ hv]
        simp
      | cons y r =>
        rw [ha] at hv
        obtain ⟨u, hu, hf⟩ := fv_kid (by decide) hv
        rcases List.mem_cons.1 hu with rfl | hu
        · have h2 : (sumT x.cs).fv [] v = true := by
            unfold sumT
            rw [Tgt.Tt.fv_mk]
            have he : (Tgt.Tt.mk 8 0 [] (x.cs.map sumK)).env [] = [] := by unfold Tgt.Tt.env Tgt.Tt.binds; simp [Tgt.Tt.k]
            rw [he, Bool.or_eq_true]
            refine .inr (fvL_of (y := Tp.made 0 y) (List.mem_map.2 ⟨d, hc d hd, by unfold sumK; rw [ha]⟩) hf)
          exact List.mem_append.2 (.inl (List.mem_append.2 (.inr (Tgt.Tt.fv_nums v _ [] h2))))
        · obtain rfl : u = .mk 6 x.t.n [] [] := by simpa using hu
          rw [hleaf _ hf]
          simp
theorem outA_cnt (x : Tm) : (outA x).1.cnt ≤ x.t.cnt + Ct.wt x.cs + 2 := by
  unfold outA ansB
  cases (decide (x.t.k = 6) && (x.t.okT && okSum x.cs)) with
  | false => show zeroA.cnt ≤ _; rw [zero_cnt]; omega
  | true =>
    show (Tgt.Tt.mk 4 0 [] [Tp.made 0 x.t, sumT x.cs]).cnt ≤ _
    rw [Tgt.Tt.cnt, Tgt.Tt.cntL, Tgt.Tt.cntL, Tgt.Tt.cntL]
    have := made_cnt 0 x.t
    have := sumT_cnt x.cs
    omega
theorem conA_cnt (s : Int) (c : Ct) : (conA s c).1.cnt ≤ c.wt1 + 2 := by
  unfold conA ansB
  cases okC s c with
  | false => show zeroA.cnt ≤ _; rw [zero_cnt]; omega
  | true => show (conT s c).cnt ≤ _; have := conT_cnt s c; unfold Ct.wt1; omega
theorem cons_sum (s : Int) : ∀ l : List Ct, ((l.map fun c => (labC c.nm, conA s c)).map fun x => x.2.1.cnt).sum ≤ 3 * Ct.wt l
  | [] => by simp
  | c :: r => by
    have ih := cons_sum s r
    rw [List.map_cons, List.map_cons, List.sum_cons, Ct.wt_cons]
    have := conA_cnt s c
    have : 1 ≤ c.wt1 := by unfold Ct.wt1; omega
    simp only at *
    omega
theorem ct_wt_mem : ∀ {l : List Ct} {c : Ct}, c ∈ l → c.wt1 ≤ Ct.wt l
  | x :: r, c, h => by
    rw [Ct.wt_cons]
    rcases List.mem_cons.1 h with rfl | h
    · omega
    · have := ct_wt_mem h; omega
theorem Tp.cnt_one (t : Tp) : 1 ≤ t.cnt := by cases t; rw [Tp.cnt]; omega
theorem flT1_fb (x : Tm) : FB (flT1 x) x.wt := by
  unfold flT1
  split
  · exact FB.nil.le (Nat.zero_le _)
  · have ho := outA_cnt x
    have hp := Tp.cnt_one x.t
    refine ⟨?_, ?_, (Tp.made 0 x.t).nums ++ (sumT x.cs).nums ++ [x.t.n], ?_, outA_fb x x.cs fun y hy => hy⟩
    · rw [List.map_cons, List.sum_cons]
      have := cons_sum x.t.n x.cs
      unfold Tm.wt
      simp only at *
      omega
    · intro z hz
      have hd := Tgt.Tt.deepest_le z.2.1
      rcases List.mem_cons.1 hz with rfl | hz
      · unfold Tm.wt; simp only at *; omega
      · obtain ⟨c, hc, rfl⟩ := List.mem_map.1 hz
        have h1 := conA_cnt x.t.n c
        have h2 := ct_wt_mem hc
        unfold Tm.wt
        simp only at *
        omega
    · rw [List.length_append, List.length_append, Tgt.Tt.nums_len, Tgt.Tt.nums_len]
      have := made_cnt 0 x.t
      have := sumT_cnt x.cs
      unfold Tm.wt
      simp only [List.length_cons, List.length_nil]
      omega
theorem flT_fb : ∀ l : List Tm, FB (flT l) (Tm.wtL l)
  | [] => FB.nil
  | x :: r => by
    unfold Tm.wtL
    rw [flT, List.map_cons, List.sum_cons]
    exact (flT1_fb x).app (flT_fb r)
theorem vals_fb (l : List Vm) : FB (l.map fun x => (x.nm, valA x)) (Vm.wtL l) := FB.rows fun x _ => valA_fb x
end Go.Proofs.YtigliglmejkakaaGreat

namespace Go.Proofs.YtigliglmejkakaaGreat
open Go.RowKit Go.Shelf Go.Sort Go.Lib
set_option linter.unusedVariables false
set_option linter.unusedSimpArgs false

theorem set_ex : ∀ xs : List (List UInt8), ∃ ys, IsSet xs ys
  | [] => ⟨[], List.Pairwise.nil, fun x => Iff.rfl⟩
  | x :: r => by
    obtain ⟨ys, h⟩ := set_ex r
    by_cases hx : x ∈ ys
    · refine ⟨ys, h.asc, fun z => ?_⟩
      rw [h.mem, List.mem_cons]
      exact ⟨.inr, fun hz => hz.elim (fun e => e ▸ (h.mem x).1 hx) id⟩
    · refine ⟨ys.filter (fun z => decide (compareBytes z x = -1)) ++ x :: ys.filter (fun z => decide (compareBytes x z = -1)), ?_, fun z => ?_⟩
      · refine List.pairwise_append.2 ⟨h.asc.filter _, List.pairwise_cons.2 ⟨fun z hz => by simpa using (List.mem_filter.1 hz).2, h.asc.filter _⟩, fun a ha b hb => ?_⟩
        have ha := (List.mem_filter.1 ha).2
        rw [decide_eq_true_eq] at ha
        rcases List.mem_cons.1 hb with rfl | hb
        · exact ha
        · have hb := (List.mem_filter.1 hb).2
          rw [decide_eq_true_eq] at hb
          exact Nm.cmp_trans ha hb
      · rw [List.mem_append, List.mem_cons, List.mem_filter, List.mem_filter, List.mem_cons, decide_eq_true_eq, decide_eq_true_eq, ← h.mem]
        constructor
        · rintro (⟨hz, -⟩ | rfl | ⟨hz, -⟩)
          · exact .inr hz
          · exact .inl rfl
          · exact .inr hz
        · rintro (rfl | hz)
          · exact .inr (.inl rfl)
          · rcases Nm.cmp_three z x with e | e | e
            · exact .inl ⟨hz, e⟩
            · exact absurd (Nm.cmp_eq e ▸ hz) hx
            · refine .inr (.inr ⟨hz, ?_⟩)
              rw [Nm.cmp_swap, e]
theorem choose_row {α β : Type} : ∀ (l : List α) (P : Nat → α → β → Prop), (∀ i x, l[i]? = some x → ∃ y, P i x y) → ∃ m : List β, m.length = l.length ∧ ∀ i x y, l[i]? = some x → m[i]? = some y → P i x y
  | [], P, _ => ⟨[], rfl, fun i x y h => by simp at h⟩
  | a :: l, P, h => by
    obtain ⟨y, hy⟩ := h 0 a rfl
    obtain ⟨m, hm, hr⟩ := choose_row l (fun i => P (i + 1)) (fun i x hx => h (i + 1) x (by simpa using hx))
    refine ⟨y :: m, by simp [hm], fun i x z hx hz => ?_⟩
    cases i with
    | zero => simp at hx hz; subst hx; subst hz; exact hy
    | succ i => exact hr i x z (by simpa using hx) (by simpa using hz)
theorem sum_mem {α : Type} {f : α → Nat} : ∀ {l : List α} {x : α}, x ∈ l → f x ≤ (l.map f).sum
  | y :: r, x, h => by
    rw [List.map_cons, List.sum_cons]
    rcases List.mem_cons.1 h with rfl | h
    · omega
    · have := sum_mem (f := f) h; omega
theorem FB.rows2 {α : Type} {g : α → Nat} : ∀ {l : List α} {m : List (ByteArray × An)}, m.length = l.length → (∀ (i : Nat) x y, l[i]? = some x → m[i]? = some y → FB [y] (g x)) → FB m ((l.map g).sum)
  | [], m, hl, _ => by obtain rfl : m = [] := List.length_eq_zero_iff.1 (by simpa using hl); exact FB.nil
  | x :: r, [], hl, _ => by simp at hl
  | x :: r, y :: m, hl, h => by
    rw [List.map_cons, List.sum_cons]
    exact FB.app (a := [y]) (h 0 x y rfl rfl) (FB.rows2 (by simpa using hl) fun i u v hu hv => h (i + 1) u v (by simpa using hu) (by simpa using hv))
theorem len_sum {α : Type} {f : α → Nat} (hf : ∀ x, 1 ≤ f x) : ∀ l : List α, l.length ≤ (l.map f).sum
  | [] => Nat.zero_le _
  | x :: r => by rw [List.map_cons, List.sum_cons, List.length_cons]; have := hf x; have := len_sum hf r; omega
/-- What a structure at an address answers. -/
def StrAns (w : World) (pb po W : Nat) (a : An) : Prop := Bnd a.1 W ∧ ∀ wz, Below w.heap.size w wz → Calls Tryz.prog 43 #[.pointer (some ⟨pb, po, none⟩)] wz (AnsOf wz a)
theorem SO.str {w : World} {n pb po W : Nat} {tms : List Tm} {vms : List Vm} {sa fa : List (ByteArray × An)} (h : SO w n pb po tms vms sa fa) (hb : FB (flS tms vms sa fa) W) : StrAns w pb po W (recA (flS tms vms sa fa)) :=
  ⟨recA_bnd (set_ex _) hb, fun wz hz => record_all wz n pb po tms vms sa fa (h.below hz)⟩
theorem str_so (n : Nat) (IH : ∀ (w : World) (pb po W : Nat) (vs : List Value), W ≤ 1048576 → Cells w pb po vs → SrP w n vs W → ∃ a, StrAns w pb po W a) (w : World) (W : Nat) (hW : W ≤ 1048576) (v0 v1 v2 v3 v4 : Value) (tms : List Tm) (vms : List Vm) (ws : List (ByteArray × Nat)) (us : List (ByteArray × List Int × Nat × List Int × Nat))
    (h1 : RowAt w 5 (ETy w n) v0 tms) (h2 : RowAt w 5 (EVal w n) v1 vms) (h3 : RowAt w 6 (fun vs (x : ByteArray × Nat) => ∃ r, vs = .string x.1 :: r ∧ SrP w n r x.2) v2 ws)
    (h4 : RowAt w 13 (fun vs (x : ByteArray × List Int × Nat × List Int × Nat) => ∃ lv a rv r, vs = .string x.1 :: lv :: (a ++ rv :: r) ∧ a.length = 5 ∧ Ls w Any lv x.2.1 ∧ (∀ z ∈ x.2.1, R64 z) ∧ SrP w n a x.2.2.1 ∧ Ls w Any rv x.2.2.2.1 ∧ (∀ z ∈ x.2.2.2.1, R64 z) ∧ SrP w n r x.2.2.2.2) v3 us)
    (h6 : Tm.wtL tms + Vm.wtL vms + (ws.map fun x => x.1.size + x.2 + 2).sum + (us.map fun x => x.1.size + x.2.1.length + x.2.2.1 + x.2.2.2.1.length + x.2.2.2.2 + 6).sum ≤ W) :
    ∃ sa fa, sa.length = ws.length ∧ fa.length = us.length ∧ FB (flS tms vms sa fa) W ∧ ∀ wz pb po, Below w.heap.size w wz → Cells wz pb po [v0, v1, v2, v3, v4] → SO wz n pb po tms vms sa fa := by
  obtain ⟨ta, tc, rfl, -⟩ := h3.form
  obtain ⟨ua, uc, rfl, -⟩ := h4.form
  have hwL : ws.length ≤ (ws.map fun x => x.1.size + x.2 + 2).sum := len_sum (fun x => by omega) ws
  have huL : us.length ≤ (us.map fun x => x.1.size + x.2.1.length + x.2.2.1 + x.2.2.2.1.length + x.2.2.2.2 + 6).sum := len_sum (fun x => by omega) us
  obtain ⟨sa, hsl, hsa⟩ := choose_row (β := ByteArray × An) ws (fun i x y => y.1 = x.1 ∧ ∃ b o, ta = some ⟨b, o, none⟩ ∧ b < w.heap.size ∧ w.cell? ⟨b, o + i * 6, none⟩ = some (.string x.1) ∧ StrAns w b (o + i * 6 + 1) x.2 y.2) (fun i x hx => by
    obtain ⟨b, o, e1, e2, vs, g0, g1, r, rfl, g2⟩ := h3.elem hx
    have hm := sum_mem (f := fun x : ByteArray × Nat => x.1.size + x.2 + 2) (List.mem_of_getElem? hx)
    obtain ⟨a, ha⟩ := IH w b (o + i * 6 + 1) x.2 r (by omega) (fun j v hv => by have := g1 (j + 1) v (by simpa using hv); rw [show o + i * 6 + 1 + j = o + i * 6 + (j + 1) from by omega]; exact this) g2
    exact ⟨(x.1, a), rfl, b, o, e1, e2, g1 0 _ rfl, ha⟩)
  obtain ⟨fa, hfl, hfa⟩ := choose_row (β := ByteArray × An) us (fun i x y => y.1 = x.1 ∧ FB [y] (x.1.size + x.2.1.length + x.2.2.1 + x.2.2.2.1.length + x.2.2.2.2 + 6) ∧ ∃ b o, ua = some ⟨b, o, none⟩ ∧ b < w.heap.size ∧ w.cell? ⟨b, o + i * 13, none⟩ = some (.string x.1) ∧ ∀ wz, Below w.heap.size w wz → Calls Tryz.prog 135 #[.pointer (some ⟨b, o + i * 13 + 1, none⟩)] wz (AnsOf wz y.2)) (fun i x hx => by
    obtain ⟨b, o, e1, e2, vs, g0, g1, lv, av, rv, r, rfl, ga, gl, gl64, gA, gr, gr64, gR⟩ := h4.elem hx
    have hm := sum_mem (f := fun x : ByteArray × List Int × Nat × List Int × Nat => x.1.size + x.2.1.length + x.2.2.1 + x.2.2.2.1.length + x.2.2.2.2 + 6) (List.mem_of_getElem? hx)
    obtain ⟨nm, l, Wa, l', Wr⟩ := x
    simp only at hm gl gl64 gA gr gr64 gR g1 ⊢
    obtain ⟨la, lc, rfl, -⟩ := gl.form
    obtain ⟨ra, rc, rfl, -⟩ := gr.form
    have q1 : w.cell? ⟨b, o + i * 13 + 1, none⟩ = some (.slice la l.length lc) := g1 1 _ rfl
    have q2 : Cells w b (o + i * 13 + 1 + 1) av := fun j v hv => by
      have hj : j < 5 := by rw [← ga]; exact (List.getElem?_eq_some_iff.1 hv).1
      have := g1 (j + 2) v (by simpa [List.getElem?_append, ga, hj] using hv)
      rw [show o + i * 13 + 1 + 1 + j = o + i * 13 + (j + 2) from by omega]; exact this
    have q3 : w.cell? ⟨b, o + i * 13 + 1 + 6, none⟩ = some (.slice ra l'.length rc) := by
      have := g1 7 (.slice ra l'.length rc) (by simp [List.getElem?_append, ga])
      rw [show o + i * 13 + 1 + 6 = o + i * 13 + 7 from by omega]; exact this
    have q4 : Cells w b (o + i * 13 + 1 + 6 + 1) r := fun j v hv => by
      have := g1 (j + 8) v (by
        simp only [List.getElem?_cons_succ]
        rw [List.getElem?_append_right (by omega), ga, show j + 6 - 5 = j + 1 from by omega]
        simpa using hv)
      rw [show o + i * 13 + 1 + 6 + 1 + j = o + i * 13 + (j + 8) from by omega]; exact this
    obtain ⟨a, Ba, Ha⟩ := IH w b (o + i * 13 + 1 + 1) Wa av (by omega) q2 gA
    obtain ⟨a', Br, Hr⟩ := IH w b (o + i * 13 + 1 + 6 + 1) Wr r (by omega) q4 gR
    refine ⟨(nm, funA l a (hidA l' a')), rfl, funA_fb Ba (hidA_bnd Br (Nat.le_refl _)) (by omega), b, o, e1, e2, g1 0 _ rfl, fun wz hz => ?_⟩
    have hlt := World.block_lt_of_cell? _ _ q1
    refine function_of wz b (o + i * 13 + 1) la lc l ((hz.cell (p := ⟨b, o + i * 13 + 1, none⟩) hlt).trans q1) (gl.below hz) gl64 (by omega) a (hidA l' a') (fun W' hW' => Ha W' (bl_tr hz hW')) (fun W' hW' => ?_)
    refine hidden_of W' b (o + i * 13 + 1 + 6) ra rc l' (((bl_tr hz hW').cell (p := ⟨b, o + i * 13 + 1 + 6, none⟩) hlt).trans q3) (gr.below (bl_tr hz hW')) gr64 (by omega) a' (fun W2 hW2 => Hr W2 (bl_tr (bl_tr hz hW') hW2)))
  refine ⟨sa, fa, hsl, hfl, ?_, fun wz pb po hz hc => ⟨⟨v0, hc 0 v0 rfl, h1.move hz fun _ _ _ h => h.below hz⟩, ⟨v1, hc 1 v1 rfl, h2.move hz fun _ _ _ h => h.below hz⟩, ⟨ta, tc, by rw [hsl]; exact hc 2 _ rfl, fun i x hx => ?_⟩, ⟨ua, uc, by rw [hfl]; exact hc 3 _ rfl, fun i x hx => ?_⟩, by omega, ⟨?_, fun x hx => ?_⟩, by omega, by omega⟩⟩
  · unfold flS
    have f1 := ((flT_fb tms).app (vals_fb vms)).app (FB.rows2 (g := fun x : ByteArray × Nat => x.1.size + x.2 + 2) hsl fun i x y hx hy => by
      obtain ⟨e, b, o, -, -, -, k4⟩ := hsa i x y hx hy
      obtain ⟨y1, y2⟩ := y
      exact FB.sub k4.1 (by omega))
    exact (f1.app (FB.rows2 (g := fun x : ByteArray × List Int × Nat × List Int × Nat => x.1.size + x.2.1.length + x.2.2.1 + x.2.2.2.1.length + x.2.2.2.2 + 6) hfl fun i x y hx hy => (hfa i x y hx hy).2.1)).le (by omega)
  · obtain ⟨y, hy⟩ : ∃ y, ws[i]? = some y := ⟨_, List.getElem?_eq_getElem (by rw [← hsl]; exact (List.getElem?_eq_some_iff.1 hx).1)⟩
    obtain ⟨e, b, o, k1, k2, k3, k4⟩ := hsa i y x hy hx
    exact ⟨b, o, k1, Nat.lt_of_lt_of_le k2 hz.size, by rw [e]; exact (hz.cell (p := ⟨b, o + i * 6, none⟩) k2).trans k3, fun wy hy => k4.2 wy (bl_tr hz hy)⟩
  · obtain ⟨y, hy⟩ : ∃ y, us[i]? = some y := ⟨_, List.getElem?_eq_getElem (by rw [← hfl]; exact (List.getElem?_eq_some_iff.1 hx).1)⟩
    obtain ⟨e, -, b, o, k1, k2, k3, k4⟩ := hfa i y x hy hx
    exact ⟨b, o, k1, Nat.lt_of_lt_of_le k2 hz.size, by rw [e]; exact (hz.cell (p := ⟨b, o + i * 13, none⟩) k2).trans k3, fun wy hy => k4 wy (bl_tr hz hy)⟩
  · have := len_sum (f := Vm.wt) (fun x => by unfold Vm.wt; omega) vms
    unfold Vm.wtL at h6; omega
  · have := sum_mem (f := Vm.wt) hx
    have : x.t.cnt ≤ x.wt := by unfold Vm.wt; omega
    unfold Vm.wtL at h6; omega
theorem str_ex : ∀ (n : Nat) (w : World) (pb po W : Nat) (vs : List Value), W ≤ 1048576 → Cells w pb po vs → SrP w n vs W → ∃ a, StrAns w pb po W a
  | 0, w, pb, po, W, vs, _, _, h => absurd h (by rw [SrP]; exact fun h => h)
  | n + 1, w, pb, po, W, vs, hW, hc, h => by
    obtain ⟨v0, v1, v2, v3, v4, tms, vms, ws, us, rfl, h1, h2, h3, h4, h5, h6⟩ := h
    obtain ⟨sa, fa, -, -, hf, hs⟩ := str_so n (str_ex n) w W hW v0 v1 v2 v3 v4 tms vms ws us h1 h2 h3 h4 h6
    exact ⟨_, (hs w pb po (Below.refl _ _) hc).str hf⟩
/-- The answer of a structure, wherever it is laid. -/
theorem str_top {n : Nat} {w : World} {W : Nat} {vs : List Value} (hW : W ≤ 1048576) (h : SrP w n vs W) :
    ∃ v0 a1 c1 a2 c2 a3 c3 v4 m tms vms sa fa, vs = [v0, .slice a1 vms.length c1, .slice a2 sa.length c2, .slice a3 fa.length c3, v4] ∧ RowAt w 5 (ETy w m) v0 tms ∧ Tm.wtL tms ≤ 1048576 ∧ vms.length ≤ 1048576 ∧ sa.length ≤ 1048576 ∧ fa.length ≤ 1048576 ∧ Bnd (recA (flS tms vms sa fa)).1 W ∧ ∀ wz pb po, Below w.heap.size w wz → Cells wz pb po vs → Calls Tryz.prog 43 #[.pointer (some ⟨pb, po, none⟩)] wz (AnsOf wz (recA (flS tms vms sa fa))) := by
  match n, h with
  | n + 1, h =>
    obtain ⟨v0, v1, v2, v3, v4, tms, vms, ws, us, rfl, h1, h2, h3, h4, h5, h6⟩ := h
    obtain ⟨sa, fa, e1, e2, hf, hs⟩ := str_so n (str_ex n) w W hW v0 v1 v2 v3 v4 tms vms ws us h1 h2 h3 h4 h6
    obtain ⟨a1, c1, rfl, -⟩ := h2.form
    obtain ⟨a2, c2, rfl, -⟩ := h3.form
    obtain ⟨a3, c3, rfl, -⟩ := h4.form
    have hwL : ws.length ≤ (ws.map fun x => x.1.size + x.2 + 2).sum := len_sum (fun x => by omega) ws
    have huL : us.length ≤ (us.map fun x => x.1.size + x.2.1.length + x.2.2.1 + x.2.2.2.1.length + x.2.2.2.2 + 6).sum := len_sum (fun x => by omega) us
    have hvL := len_sum (f := Vm.wt) (fun x => by unfold Vm.wt; omega) vms
    unfold Vm.wtL at h6
    refine ⟨v0, a1, c1, a2, c2, a3, c3, v4, n, tms, vms, sa, fa, by rw [e1, e2], h1, by omega, by omega, by omega, by omega, recA_bnd (set_ex _) hf, fun wz pb po hz hc => record_all wz n pb po tms vms sa fa (hs wz pb po hz hc)⟩
end Go.Proofs.YtigliglmejkakaaGreat
