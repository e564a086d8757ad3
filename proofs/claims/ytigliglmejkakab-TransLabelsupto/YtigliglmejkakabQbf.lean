/- How great target types are that were made. The numbers of a type; what stands free under fewer binders. How great, how deep what comes of a structure is, and which numbers may be free in it: plain mathematics. -/
import Derived.Test.YtigliglmejkakabQbe
import Derived.Test.YtigliglmejkakabQaq
namespace Go.Proofs.Ytigliglmejkakab
open Go.RowKit
set_option linter.unusedVariables false
set_option linter.unusedSimpArgs false

theorem leaf_cnt (k n : Int) : (Tgt.Tt.mk k n [] []).cnt = 1 := by rw [Tgt.Tt.cnt, Tgt.Tt.cntL]
mutual
theorem made_cnt (k : Int) : ∀ t : Tp, (Tp.made k t).cnt ≤ t.cnt
  | .mk kd n ks => by
    have h := madeL_cnt k ks
    rw [Tp.made, Tp.cnt]
    repeat' split
    all_goals (try (rw [leaf_cnt]; omega))
    all_goals (rw [Tgt.Tt.cnt]; omega)
theorem madeL_cnt (k : Int) : ∀ l : List Tp, Tgt.Tt.cntL (Tp.madeL k l) ≤ Tp.cntL l
  | [] => by rw [Tp.madeL, Tgt.Tt.cntL, Tp.cntL]; exact Nat.le_refl _
  | x :: r => by
    have h1 := made_cnt k x
    have h2 := madeL_cnt k r
    rw [Tp.madeL, Tgt.Tt.cntL, Tp.cntL]
    omega
end
theorem around_cnt (kind : Int) (y : Tgt.Tt) : ∀ l : List Int, (Tt.around kind l y).cnt = y.cnt + l.length
  | [] => rfl
  | x :: r => by
    have h := around_cnt kind y r
    show (Tgt.Tt.mk kind x [] [Tt.around kind r y]).cnt = _
    rw [Tgt.Tt.cnt, Tgt.Tt.cntL, Tgt.Tt.cntL, h, List.length_cons]
    omega
theorem schemeT_cnt (g : Int) (t : Tp) : (t.schemeT g).cnt ≤ t.cnt + g.toNat := by
  unfold Tp.schemeT
  rw [around_cnt, numsT_len]
  have := made_cnt (topK (Tp.found 6 t [])) t
  omega
theorem sumK_cnt (c : Ct) : (sumK c).cnt ≤ Tp.cntL c.args + 1 := by
  unfold sumK
  split
  · rw [leaf_cnt]; omega
  · rename_i x r h
    have := made_cnt 0 x
    rw [h, Tp.cntL]
    omega
theorem sumL_cnt : ∀ l : List Ct, Tgt.Tt.cntL (l.map sumK) ≤ Ct.wt l
  | [] => by rw [List.map_nil, Tgt.Tt.cntL]; exact Nat.zero_le _
  | c :: r => by
    have h1 := sumK_cnt c
    have h2 := sumL_cnt r
    rw [List.map_cons, Tgt.Tt.cntL, Ct.wt_cons]
    unfold Ct.wt1
    omega
theorem sumT_cnt (l : List Ct) : (sumT l).cnt ≤ Ct.wt l + 1 := by
  have := sumL_cnt l
  unfold sumT
  rw [Tgt.Tt.cnt]
  omega
theorem repT_cnt (s : Int) (l : List Ct) : (repT s l).cnt ≤ Ct.wt l + 2 := by
  have := sumT_cnt l
  unfold repT
  rw [Tgt.Tt.cnt, Tgt.Tt.cntL, Tgt.Tt.cntL]
  omega
theorem conT_cnt (s : Int) (c : Ct) : (conT s c).cnt ≤ Tp.cntL c.args + 3 := by
  unfold conT
  split
  · rw [leaf_cnt]; omega
  · rename_i x r h
    have := made_cnt 0 x
    rw [h, Tp.cntL, Tgt.Tt.cnt, Tgt.Tt.cntL, Tgt.Tt.cntL, Tgt.Tt.cntL, leaf_cnt]
    omega
end Go.Proofs.Ytigliglmejkakab

namespace Go.Proofs.Ytigliglmejkakab.Tgt
open Go.RowKit
set_option linter.unusedVariables false
set_option linter.unusedSimpArgs false

mutual
/-- The numbers of a type. -/
def Tt.nums : Tt → List Int
  | .mk _ n _ ks => n :: Tt.numsL ks
def Tt.numsL : List Tt → List Int
  | [] => []
  | x :: r => Tt.nums x ++ Tt.numsL r
end
mutual
theorem Tt.nums_len : ∀ t : Tt, t.nums.length = t.cnt
  | .mk k n ls ks => by rw [Tt.nums, Tt.cnt, List.length_cons, Tt.numsL_len]
theorem Tt.numsL_len : ∀ l : List Tt, (Tt.numsL l).length = Tt.cntL l
  | [] => by rw [Tt.numsL, Tt.cntL]; rfl
  | x :: r => by rw [Tt.numsL, Tt.cntL, List.length_append, Tt.nums_len, Tt.numsL_len]
end
mutual
theorem Tt.fv_nums (x : Int) : ∀ (t : Tt) (e : List (Int × Int)), t.fv e x = true → x ∈ t.nums
  | .mk k n ls ks, e, h => by
    rw [Tt.fv_mk] at h
    simp only [Bool.or_eq_true, Bool.and_eq_true, beq_iff_eq] at h
    rw [Tt.nums]
    rcases h with ⟨-, h, -⟩ | h
    · have h : n = x := h
      simp [h]
    · exact List.mem_cons_of_mem _ (Tt.fvL_nums x ks _ h)
theorem Tt.fvL_nums (x : Int) : ∀ (l : List Tt) (e : List (Int × Int)), Tt.fvL l e x = true → x ∈ Tt.numsL l
  | [], e, h => by rw [Tt.fvL] at h; cases h
  | t :: r, e, h => by
    rw [Tt.fvL] at h
    simp only [Bool.or_eq_true] at h
    rw [Tt.numsL, List.mem_append]
    exact h.imp (Tt.fv_nums x t e) (Tt.fvL_nums x r e)
end
theorem lk_env {x : Int} {t : Tt} {e e' : List (Int × Int)} (h : lk e x = none → lk e' x = none) : lk (t.env e) x = none → lk (t.env e') x = none := by
  unfold Tt.env
  split
  · intro hq
    rw [lk_cons] at hq ⊢
    split at hq
    · cases hq
    · rename_i hne; rw [if_neg hne]; exact h hq
  · exact h
mutual
/-- What stands free under fewer binders. -/
theorem Tt.fv_weak (x : Int) : ∀ (t : Tt) (e e' : List (Int × Int)), (lk e x = none → lk e' x = none) → t.fv e x = true → t.fv e' x = true
  | .mk k n ls ks, e, e', h, hf => by
    rw [Tt.fv_mk] at hf ⊢
    simp only [Bool.or_eq_true, Bool.and_eq_true, beq_iff_eq, Option.isNone_iff_eq_none] at hf ⊢
    rcases hf with ⟨h1, h2, h3⟩ | hf
    · exact .inl ⟨h1, h2, h h3⟩
    · exact .inr (Tt.fvL_weak x ks _ _ (lk_env h) hf)
theorem Tt.fvL_weak (x : Int) : ∀ (l : List Tt) (e e' : List (Int × Int)), (lk e x = none → lk e' x = none) → Tt.fvL l e x = true → Tt.fvL l e' x = true
  | [], e, e', h, hf => by rw [Tt.fvL] at hf; cases hf
  | t :: r, e, e', h, hf => by
    rw [Tt.fvL] at hf ⊢
    simp only [Bool.or_eq_true] at hf ⊢
    exact hf.imp (Tt.fv_weak x t e e' h) (Tt.fvL_weak x r e e' h)
end
end Go.Proofs.Ytigliglmejkakab.Tgt

namespace Go.Proofs.Ytigliglmejkakab
open Go.RowKit Go.Shelf Go.Sort
set_option linter.unusedVariables false
set_option linter.unusedSimpArgs false

theorem fv_less {y : Tgt.Tt} {e : List (Int × Int)} {x : Int} (h : y.fv e x = true) : y.fv [] x = true := Tgt.Tt.fv_weak x y e [] (fun _ => rfl) h
theorem fvL_mem {x : Int} {e : List (Int × Int)} : ∀ {l : List Tgt.Tt}, Tgt.Tt.fvL l e x = true → ∃ y ∈ l, y.fv e x = true
  | [], h => by rw [Tgt.Tt.fvL] at h; cases h
  | y :: r, h => by
    rw [Tgt.Tt.fvL, Bool.or_eq_true] at h
    rcases h with h | h
    · exact ⟨y, List.mem_cons_self, h⟩
    · obtain ⟨z, hz, hf⟩ := fvL_mem h
      exact ⟨z, List.mem_cons_of_mem _ hz, hf⟩
theorem fvL_of {x : Int} {e : List (Int × Int)} : ∀ {l : List Tgt.Tt} {y : Tgt.Tt}, y ∈ l → y.fv e x = true → Tgt.Tt.fvL l e x = true
  | z :: r, y, h, hf => by
    rw [Tgt.Tt.fvL, Bool.or_eq_true]
    rcases List.mem_cons.1 h with rfl | h
    · exact .inl hf
    · exact .inr (fvL_of h hf)
theorem fv_kid {k n x : Int} {ls : List ByteArray} {ks : List Tgt.Tt} (hk : k ≠ 6) (h : (Tgt.Tt.mk k n ls ks).fv [] x = true) : ∃ y ∈ ks, y.fv [] x = true := by
  rw [Tgt.Tt.fv_mk] at h
  have hk' : ((Tgt.Tt.mk k n ls ks).k == 6) = false := by simpa [Tgt.Tt.k] using hk
  rw [hk', Bool.false_and, Bool.false_or] at h
  obtain ⟨y, hy, hf⟩ := fvL_mem h
  exact ⟨y, hy, fv_less hf⟩
theorem fv_around {k x : Int} (hk : k ≠ 6) {y : Tgt.Tt} : ∀ {l : List Int}, (Tt.around k l y).fv [] x = true → y.fv [] x = true
  | [], h => h
  | n :: r, h => by
    have h : (Tgt.Tt.mk k n [] [Tt.around k r y]).fv [] x = true := h
    obtain ⟨z, hz, hf⟩ := fv_kid hk h
    obtain rfl : z = Tt.around k r y := by simpa using hz
    exact fv_around hk hf
theorem around_deep (k : Int) (y : Tgt.Tt) : ∀ l : List Int, (Tt.around k l y).deepest = y.deepest + l.length
  | [] => rfl
  | n :: r => by
    show (Tgt.Tt.mk k n [] [Tt.around k r y]).deepest = _
    rw [Tgt.Tt.deepest, Tgt.Tt.deepestL, Tgt.Tt.deepestL, around_deep k y r, List.length_cons]
    omega
theorem deepestL_le {B : Nat} : ∀ {l : List Tgt.Tt}, (∀ y ∈ l, y.deepest ≤ B) → Tgt.Tt.deepestL l ≤ B
  | [], _ => by rw [Tgt.Tt.deepestL]; exact Nat.zero_le _
  | y :: r, h => by
    rw [Tgt.Tt.deepestL]
    have h1 := h y List.mem_cons_self
    have h2 := deepestL_le (l := r) fun z hz => h z (List.mem_cons_of_mem _ hz)
    omega

/-- How great an answer may be. -/
structure Bnd (y : Tgt.Tt) (W : Nat) : Prop where
  c : y.cnt ≤ 4 * W + 4
  d : y.deepest ≤ 2 * W + 4
  k : ∃ K : List Int, K.length ≤ 2 * W ∧ ∀ x, y.fv [] x = true → x ∈ K
theorem zero_fv (x : Int) : zeroA.fv [] x = false := by
  unfold zeroA
  rw [Tgt.Tt.fv_mk]
  simp [Tgt.Tt.k, Tgt.Tt.ks, Tgt.Tt.fvL]
theorem zero_cnt : zeroA.cnt = 1 := leaf_cnt 0 0
theorem zero_deep : zeroA.deepest = 1 := by unfold zeroA; rw [Tgt.Tt.deepest, Tgt.Tt.deepestL]
theorem Bnd.zero (W : Nat) : Bnd zeroA W := ⟨by rw [zero_cnt]; omega, by rw [zero_deep]; omega, [], Nat.zero_le _, fun x h => by rw [zero_fv] at h; cases h⟩

/-- Likewise of fields. -/
structure FB (fl : List (ByteArray × An)) (W : Nat) : Prop where
  c : (fl.map fun x => x.2.1.cnt).sum ≤ 4 * W
  d : ∀ x ∈ fl, x.2.1.deepest ≤ 2 * W + 3
  k : ∃ K : List Int, K.length ≤ 2 * W ∧ ∀ x ∈ fl, ∀ z, x.2.1.fv [] z = true → z ∈ K
theorem FB.nil : FB [] 0 := ⟨by simp, (fun x h => by cases h), [], Nat.le_refl _, (fun x h => by cases h)⟩
theorem FB.app {a b : List (ByteArray × An)} {V W : Nat} (h : FB a V) (g : FB b W) : FB (a ++ b) (V + W) := by
  obtain ⟨K, hK, hk⟩ := h.k
  obtain ⟨L, hL, hl⟩ := g.k
  refine ⟨?_, ?_, K ++ L, ?_, ?_⟩
  · rw [List.map_append, List.sum_append]; have := h.c; have := g.c; omega
  · intro x hx
    rcases List.mem_append.1 hx with hx | hx
    · have := h.d x hx; omega
    · have := g.d x hx; omega
  · rw [List.length_append]; omega
  · intro x hx z hz
    rcases List.mem_append.1 hx with hx | hx
    · exact List.mem_append.2 (.inl (hk x hx z hz))
    · exact List.mem_append.2 (.inr (hl x hx z hz))
theorem FB.le {a : List (ByteArray × An)} {V W : Nat} (h : FB a V) (hle : V ≤ W) : FB a W := by
  obtain ⟨K, hK, hk⟩ := h.k
  exact ⟨by have := h.c; omega, fun x hx => by have := h.d x hx; omega, K, by omega, hk⟩
theorem FB.one {nm : ByteArray} {a : An} {W : Nat} (hc : a.1.cnt ≤ 4 * W) (hd : a.1.deepest ≤ 2 * W + 3) (hk : ∃ K : List Int, K.length ≤ 2 * W ∧ ∀ z, a.1.fv [] z = true → z ∈ K) : FB [(nm, a)] W := by
  obtain ⟨K, hK, hk⟩ := hk
  refine ⟨by simpa using hc, fun x hx => ?_, K, hK, fun x hx => ?_⟩
  · obtain rfl : x = (nm, a) := by simpa using hx
    exact hd
  · obtain rfl : x = (nm, a) := by simpa using hx
    exact hk
theorem FB.sub {nm : ByteArray} {a : An} {W V : Nat} (h : Bnd a.1 W) (hv : W + 2 ≤ V) : FB [(nm, a)] V := by
  obtain ⟨K, hK, hk⟩ := h.k
  exact FB.one (by have := h.c; omega) (by have := h.d; omega) ⟨K, by omega, hk⟩
theorem FB.rows {α : Type} {f : α → ByteArray × An} {g : α → Nat} : ∀ {l : List α}, (∀ x ∈ l, FB [f x] (g x)) → FB (l.map f) ((l.map g).sum)
  | [], _ => FB.nil
  | x :: r, h => by
    rw [List.map_cons, List.map_cons, List.sum_cons]
    exact FB.app (a := [f x]) (h x List.mem_cons_self) (FB.rows fun z hz => h z (List.mem_cons_of_mem _ hz))
/-- The sum of what stands at the places is no more than the sum of the fields. -/
theorem fill_sum {ys : List (List UInt8)} (hi : ∀ (p q : Nat) z, ys[p]? = some z → ys[q]? = some z → p = q) : ∀ fl : List (ByteArray × An), ((List.range ys.length).map fun p => match fillF ys fl p with | some y => y.cnt | none => 0).sum ≤ (fl.map fun x => x.2.1.cnt).sum
  | [] => by
    have : ∀ n : Nat, ((List.range n).map fun p => match fillF ys [] p with | some y => y.cnt | none => 0).sum = 0 := fun n => by
      induction n with
      | zero => rfl
      | succ n ih => rw [List.range_succ, List.map_append, List.sum_append, ih]; rfl
    rw [this]; exact Nat.zero_le _
  | x :: r => by
    have ih := fill_sum hi r
    rw [List.map_cons, List.sum_cons]
    have key : ∀ n : Nat, ((List.range n).map fun p => match fillF ys (x :: r) p with | some y => y.cnt | none => 0).sum ≤ ((List.range n).map fun p => match fillF ys r p with | some y => y.cnt | none => 0).sum + (if ∃ p, p < n ∧ ys[p]? = some x.1.data.toList then x.2.1.cnt else 0) := fun n => by
      induction n with
      | zero => simp
      | succ n ihn =>
        rw [List.range_succ, List.map_append, List.sum_append, List.map_append, List.sum_append]
        simp only [List.map_cons, List.map_nil, List.sum_cons, List.sum_nil, Nat.add_zero]
        by_cases hn : ys[n]? = some x.1.data.toList
        · have hno : ¬ ∃ p, p < n ∧ ys[p]? = some x.1.data.toList := fun ⟨p, hp, hq⟩ => by have := hi p n _ hq hn; omega
          rw [if_neg hno] at ihn
          rw [if_pos ⟨n, Nat.lt_succ_self n, hn⟩]
          have : (match fillF ys (x :: r) n with | some y => y.cnt | none => 0) ≤ (match fillF ys r n with | some y => y.cnt | none => 0) + x.2.1.cnt := by
            simp only [fillF]
            cases fillF ys r n with
            | some z => simp
            | none => simp [hn]
          omega
        · have : (match fillF ys (x :: r) n with | some y => y.cnt | none => 0) = (match fillF ys r n with | some y => y.cnt | none => 0) := by
            simp only [fillF]
            cases fillF ys r n with
            | some z => simp
            | none => simp [hn]
          have hiff : (∃ p, p < n + 1 ∧ ys[p]? = some x.1.data.toList) ↔ ∃ p, p < n ∧ ys[p]? = some x.1.data.toList := ⟨fun ⟨p, hp, hq⟩ => ⟨p, by rcases Nat.lt_or_eq_of_le (Nat.le_of_lt_succ hp) with h | h; exact h; subst h; exact absurd hq hn, hq⟩, fun ⟨p, hp, hq⟩ => ⟨p, by omega, hq⟩⟩
          rw [this]
          by_cases hex : ∃ p, p < n ∧ ys[p]? = some x.1.data.toList
          · rw [if_pos (hiff.2 hex)]; rw [if_pos hex] at ihn; omega
          · rw [if_neg (fun h => hex (hiff.1 h))]; rw [if_neg hex] at ihn; omega
    have := key ys.length
    split at this <;> omega
theorem cntL_sum : ∀ l : List Tgt.Tt, Tgt.Tt.cntL l = (l.map Tgt.Tt.cnt).sum
  | [] => by rw [Tgt.Tt.cntL]; rfl
  | x :: r => by rw [Tgt.Tt.cntL, cntL_sum r, List.map_cons, List.sum_cons]
theorem setOf_is (xs : List (List UInt8)) (h : ∃ ys, IsSet xs ys) : IsSet xs (setOf xs) := by
  obtain ⟨ys, hy⟩ := h
  rw [setOf_eq hy]; exact hy
theorem fill_mem {ys : List (List UInt8)} : ∀ {fl : List (ByteArray × An)} {p : Nat} {y : Tgt.Tt}, fillF ys fl p = some y → ∃ x ∈ fl, x.2.1 = y
  | [], p, y, h => by cases h
  | x :: r, p, y, h => by
    simp only [fillF] at h
    cases hr : fillF ys r p with
    | some z =>
      rw [hr] at h
      obtain ⟨u, hu, e⟩ := fill_mem hr
      exact ⟨u, List.mem_cons_of_mem _ hu, by rw [e]; simpa using h⟩
    | none =>
      rw [hr] at h
      by_cases hp : ys[p]? = some x.1.data.toList
      · simp only [if_pos hp] at h
        exact ⟨x, List.mem_cons_self, by simpa using h⟩
      · simp only [if_neg hp] at h
        cases h
theorem recA_bnd {fl : List (ByteArray × An)} {W : Nat} (hs : ∃ ys, IsSet (labsOf fl) ys) (h : FB fl W) : Bnd (recA fl).1 W := by
  unfold recA
  split
  · exact Bnd.zero W
  split
  · exact Bnd.zero W
  have hset := setOf_is _ hs
  generalize hY : setOf (labsOf fl) = ys at hset
  have hat : ∀ (i : Nat) y, (kidsOf ys fl)[i]? = some y → fillF ys fl i = some y := fun i y hy => kidsOf_at hset hy
  have hmem : ∀ y ∈ kidsOf ys fl, ∃ x ∈ fl, x.2.1 = y := fun y hy => by
    obtain ⟨i, hi⟩ := List.mem_iff_getElem?.1 hy
    exact fill_mem (hat i y hi)
  refine ⟨?_, ?_, ?_⟩
  · show (Tgt.Tt.mk 7 0 _ _).cnt ≤ _
    rw [Tgt.Tt.cnt, cntL_sum]
    have e : (kidsOf ys fl).map Tgt.Tt.cnt = (List.range ys.length).map fun p => match fillF ys fl p with | some y => y.cnt | none => 0 := by
      apply List.ext_getElem?
      intro i
      rw [List.getElem?_map, List.getElem?_map]
      by_cases hi : i < ys.length
      · obtain ⟨y, hy⟩ : ∃ y, (kidsOf ys fl)[i]? = some y := ⟨_, List.getElem?_eq_getElem (by rw [kidsOf_len]; exact hi)⟩
        rw [hy, List.getElem?_range hi]
        simp only [Option.map_some]
        rw [hat i y hy]
      · rw [List.getElem?_eq_none (by rw [kidsOf_len]; omega), List.getElem?_eq_none (by rw [List.length_range]; omega)]
        rfl
    rw [e]
    have := fill_sum (ys := ys) (fun p q z hp hq => hset.ascA.inj hp hq) fl
    have := h.c
    omega
  · show (Tgt.Tt.mk 7 0 _ _).deepest ≤ _
    rw [Tgt.Tt.deepest]
    have := deepestL_le (B := 2 * W + 3) (l := kidsOf ys fl) fun y hy => by
      obtain ⟨x, hx, rfl⟩ := hmem y hy
      exact h.d x hx
    omega
  · obtain ⟨K, hK, hk⟩ := h.k
    refine ⟨K, hK, fun z hz => ?_⟩
    obtain ⟨y, hy, hf⟩ := fv_kid (by decide) hz
    obtain ⟨x, hx, rfl⟩ := hmem y hy
    exact hk x hx z hf
theorem hidA_bnd {l : List Int} {a : An} {W V : Nat} (h : Bnd a.1 W) (hv : W + l.length ≤ V) : Bnd (hidA l a).1 V := by
  unfold hidA
  split
  · split
    · obtain ⟨K, hK, hk⟩ := h.k
      refine ⟨?_, ?_, K, by omega, fun x hx => hk x (fv_around (by decide) hx)⟩
      · show (Tt.around 11 l a.1).cnt ≤ _; rw [around_cnt]; have := h.c; omega
      · show (Tt.around 11 l a.1).deepest ≤ _; rw [around_deep]; have := h.d; omega
    · exact Bnd.zero _
  · exact Bnd.zero _
theorem funA_fb {nm : ByteArray} {l : List Int} {a b : An} {W V U : Nat} (h : Bnd a.1 W) (g : Bnd b.1 V) (hv : W + V + l.length + 6 ≤ U) : FB [(nm, funA l a b)] U := by
  unfold funA
  have hz : ∀ e : Int, FB [(nm, ((zeroA, e) : An))] U := fun e => FB.sub (Bnd.zero 0) (by omega)
  split
  · split
    · split
      · obtain ⟨K, hK, hk⟩ := h.k
        obtain ⟨L, hL, hl⟩ := g.k
        refine FB.one ?_ ?_ ⟨K ++ L, by rw [List.length_append]; omega, fun x hx => ?_⟩
        · show (Tt.around 10 l _).cnt ≤ _
          rw [around_cnt, Tgt.Tt.cnt, Tgt.Tt.cntL, Tgt.Tt.cntL, Tgt.Tt.cntL]
          have := h.c; have := g.c; omega
        · show (Tt.around 10 l _).deepest ≤ _
          rw [around_deep, Tgt.Tt.deepest, Tgt.Tt.deepestL, Tgt.Tt.deepestL, Tgt.Tt.deepestL]
          have := h.d; have := g.d; omega
        · obtain ⟨y, hy, hf⟩ := fv_kid (by decide) (fv_around (by decide) hx)
          rcases List.mem_cons.1 hy with rfl | hy
          · exact List.mem_append.2 (.inl (hk x hf))
          · obtain rfl : y = b.1 := by simpa using hy
            exact List.mem_append.2 (.inr (hl x hf))
      · exact hz _
    · exact hz _
  · exact hz _
theorem valA_fb (x : Vm) : FB [(x.nm, valA x)] x.wt := by
  unfold valA ansB
  cases hok : Tp.okS x.g x.t with
  | false => exact FB.one (a := (zeroA, 1)) (by rw [zero_cnt]; unfold Vm.wt; omega) (by rw [zero_deep]; omega) ⟨[], Nat.zero_le _, fun z h => by rw [zero_fv] at h; cases h⟩
  | true =>
    have hg : x.g.toNat ≤ x.t.cnt := by
      unfold Tp.okS Tp.rightS at hok
      simp only [Bool.and_eq_true, decide_eq_true_eq] at hok
      have := Tp.found_lenD 8 x.t []
      have h2 := hok.1.2.2
      simp only [List.length_nil, Nat.zero_add] at this
      omega
    have hc := schemeT_cnt x.g x.t
    have hd := Tgt.Tt.deepest_le (x.t.schemeT x.g)
    refine FB.one (a := (x.t.schemeT x.g, 0)) ?_ ?_ ⟨(x.t.schemeT x.g).nums, ?_, fun z hz => Tgt.Tt.fv_nums z _ [] hz⟩
    · show (x.t.schemeT x.g).cnt ≤ _; unfold Vm.wt; omega
    · show (x.t.schemeT x.g).deepest ≤ _
      unfold Tp.schemeT
      rw [around_deep, numsT_len]
      have h1 := Tgt.Tt.deepest_le (Tp.made (topK (Tp.found 6 x.t [])) x.t)
      have h2 := made_cnt (topK (Tp.found 6 x.t [])) x.t
      unfold Vm.wt
      omega
    · rw [Tgt.Tt.nums_len]; unfold Vm.wt; omega
theorem outA_fb (x : Tm) (c : List Ct) (hc : ∀ y ∈ c, y ∈ x.cs) : ∀ z ∈ (labO x.nm, outA x) :: c.map (fun c => (labC c.nm, conA x.t.n c)), ∀ v, z.2.1.fv [] v = true → v ∈ (Tp.made 0 x.t).nums ++ (sumT x.cs).nums ++ [x.t.n] := by
  intro z hz v hv
  rcases List.mem_cons.1 hz with rfl | hz
  · unfold outA ansB at hv
    cases hb : (decide (x.t.k = 6) && (x.t.okT && okSum x.cs)) with
    | false => rw [hb] at hv; have hv : zeroA.fv [] v = true := hv; rw [zero_fv] at hv; cases hv
    | true =>
      rw [hb] at hv
      have hv : (Tgt.Tt.mk 4 0 [] [Tp.made 0 x.t, sumT x.cs]).fv [] v = true := hv
      obtain ⟨y, hy, hf⟩ := fv_kid (by decide) hv
      rcases List.mem_cons.1 hy with rfl | hy
      · exact List.mem_append.2 (.inl (List.mem_append.2 (.inl (Tgt.Tt.fv_nums v _ [] hf))))
      · obtain rfl : y = sumT x.cs := by simpa using hy
        exact List.mem_append.2 (.inl (List.mem_append.2 (.inr (Tgt.Tt.fv_nums v _ [] hf))))
  · obtain ⟨d, hd, rfl⟩ := List.mem_map.1 hz
    have hv : (conA x.t.n d).1.fv [] v = true := hv
    unfold conA ansB at hv
    cases hb : okC x.t.n d with
    | false => rw [hb] at hv; have hv : zeroA.fv [] v = true := hv; rw [zero_fv] at hv; cases hv
    | true =>
      rw [hb] at hv
      have hv : (conT x.t.n d).fv [] v = true := hv
      have hleaf : ∀ s : Int, (Tgt.Tt.mk 6 s [] []).fv [] v = true → v = s := fun s h => by
        rw [Tgt.Tt.fv_mk] at h
        simp [Tgt.Tt.k, Tgt.Tt.n, Tgt.Tt.ks, Tgt.Tt.fvL] at h
        exact h.1.symm
      unfold conT at hv
      cases ha : d.args with
      | nil =>
        rw [ha] at hv
        rw [hleaf _ hv]
        simp
      | cons y r =>
        rw [ha] at hv
        obtain ⟨u, hu, hf⟩ := fv_kid (by decide) hv
        rcases List.mem_cons.1 hu with rfl | hu
        · have h2 : (sumT x.cs).fv [] v = true := by
            unfold sumT
            rw [Tgt.Tt.fv_mk]
            have he : (Tgt.Tt.mk 8 0 [] (x.cs.map sumK)).env [] = [] := by unfold Tgt.Tt.env Tgt.Tt.binds; simp [Tgt.Tt.k]
            rw [he, Bool.or_eq_true]
            refine .inr (fvL_of (y := Tp.made 0 y) (List.mem_map.2 ⟨d, hc d hd, by unfold sumK; rw [ha]⟩) hf)
          exact List.mem_append.2 (.inl (List.mem_append.2 (.inr (Tgt.Tt.fv_nums v _ [] h2))))
        · obtain rfl : u = .mk 6 x.t.n [] [] := by simpa using hu
          rw [hleaf _ hf]
          simp
theorem outA_cnt (x : Tm) : (outA x).1.cnt ≤ x.t.cnt + Ct.wt x.cs + 2 := by
  unfold outA ansB
  cases (decide (x.t.k = 6) && (x.t.okT && okSum x.cs)) with
  | false => show zeroA.cnt ≤ _; rw [zero_cnt]; omega
  | true =>
    show (Tgt.Tt.mk 4 0 [] [Tp.made 0 x.t, sumT x.cs]).cnt ≤ _
    rw [Tgt.Tt.cnt, Tgt.Tt.cntL, Tgt.Tt.cntL, Tgt.Tt.cntL]
    have := made_cnt 0 x.t
    have := sumT_cnt x.cs
    omega
theorem conA_cnt (s : Int) (c : Ct) : (conA s c).1.cnt ≤ c.wt1 + 2 := by
  unfold conA ansB
  cases okC s c with
  | false => show zeroA.cnt ≤ _; rw [zero_cnt]; omega
  | true => show (conT s c).cnt ≤ _; have := conT_cnt s c; unfold Ct.wt1; omega
theorem cons_sum (s : Int) : ∀ l : List Ct, ((l.map fun c => (labC c.nm, conA s c)).map fun x => x.2.1.cnt).sum ≤ 3 * Ct.wt l
  | [] => by simp
  | c :: r => by
    have ih := cons_sum s r
    rw [List.map_cons, List.map_cons, List.sum_cons, Ct.wt_cons]
    have := conA_cnt s c
    have : 1 ≤ c.wt1 := by unfold Ct.wt1; omega
    simp only at *
    omega
theorem ct_wt_mem : ∀ {l : List Ct} {c : Ct}, c ∈ l → c.wt1 ≤ Ct.wt l
  | x :: r, c, h => by
    rw [Ct.wt_cons]
    rcases List.mem_cons.1 h with rfl | h
    · omega
    · have := ct_wt_mem h; omega
theorem Tp.cnt_one (t : Tp) : 1 ≤ t.cnt := by cases t; rw [Tp.cnt]; omega
theorem flT1_fb (x : Tm) : FB (flT1 x) x.wt := by
  unfold flT1
  split
  · exact FB.nil.le (Nat.zero_le _)
  · have ho := outA_cnt x
    have hp := Tp.cnt_one x.t
    refine ⟨?_, ?_, (Tp.made 0 x.t).nums ++ (sumT x.cs).nums ++ [x.t.n], ?_, outA_fb x x.cs fun y hy => hy⟩
    · rw [List.map_cons, List.sum_cons]
      have := cons_sum x.t.n x.cs
      unfold Tm.wt
      simp only at *
      omega
    · intro z hz
      have hd := Tgt.Tt.deepest_le z.2.1
      rcases List.mem_cons.1 hz with rfl | hz
      · unfold Tm.wt; simp only at *; omega
      · obtain ⟨c, hc, rfl⟩ := List.mem_map.1 hz
        have h1 := conA_cnt x.t.n c
        have h2 := ct_wt_mem hc
        unfold Tm.wt
        simp only at *
        omega
    · rw [List.length_append, List.length_append, Tgt.Tt.nums_len, Tgt.Tt.nums_len]
      have := made_cnt 0 x.t
      have := sumT_cnt x.cs
      unfold Tm.wt
      simp only [List.length_cons, List.length_nil]
      omega
theorem flT_fb : ∀ l : List Tm, FB (flT l) (Tm.wtL l)
  | [] => FB.nil
  | x :: r => by
    unfold Tm.wtL
    rw [flT, List.map_cons, List.sum_cons]
    exact (flT1_fb x).app (flT_fb r)
theorem vals_fb (l : List Vm) : FB (l.map fun x => (x.nm, valA x)) (Vm.wtL l) := FB.rows fun x _ => valA_fb x
end Go.Proofs.Ytigliglmejkakab
