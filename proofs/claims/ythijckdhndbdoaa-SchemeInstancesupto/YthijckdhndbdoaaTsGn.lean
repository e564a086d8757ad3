/- What is generalised is right, and at least as general as its instances: plain mathematics. -/
import Derived.Test.YthijckdhndbdoaaTsKp
import Derived.Test.YthijckdhndbdoaaTsO
import Derived.Test.YthijckdhndbdoaaTsIn
namespace Go.Proofs.Ythijckdhndbdoaa
open Go.RowKit
set_option linter.unusedVariables false
set_option linter.unusedSimpArgs false

theorem idx_nums : ∀ (m i k : Nat), k < m → Tp.idx ((i + k : Nat) : Int) ((List.range m).map fun (j : Nat) => ((i + j : Nat) : Int)) i = ((i + k : Nat) : Int)
  | 0, i, k, h => by omega
  | m + 1, i, k, h => by
    rw [List.range_succ_eq_map, List.map_cons, List.map_map, Tp.idx]
    by_cases hk : k = 0
    · subst hk; rw [if_pos rfl]; rfl
    · rw [if_neg (by omega)]
      have := idx_nums m (i + 1) (k - 1) (by omega)
      rw [show i + 1 + (k - 1) = i + k by omega] at this
      rw [← this]
      congr 1
      apply List.map_congr_left
      intro j _
      simp only [Function.comp]
      congr 1
      omega
mutual
/-- Putting in is making an instance. -/
theorem Tp.put_inst (l : List Tp) : ∀ t : Tp, (∀ n ∈ Tp.all 8 t, 0 ≤ n ∧ n < l.length) → Tp.put 8 (nums l.length) l t = Tp.inst (fun i => l.getD i.toNat (.mk 0 0 [])) t
  | .mk k n ks, h => by
    rw [Tp.all] at h
    rw [Tp.put, Tp.inst]
    by_cases hk : k = 8
    · have hn := h n (by rw [if_pos hk]; simp)
      obtain ⟨i, rfl⟩ : ∃ i : Nat, n = i := ⟨n.toNat, by omega⟩
      have hi : i < l.length := by omega
      have hb : Tp.by 8 (nums l.length) l k (i : Int) = some (l.getD i (.mk 0 0 [])) := by
        unfold Tp.by nums
        have e := idx_nums l.length 0 i hi
        simp only [Nat.zero_add] at e
        rw [if_pos hk, e, if_pos (by omega), Int.toNat_natCast, List.getD_eq_getElem?_getD, List.getElem?_eq_getElem hi]
        rfl
      rw [hb, if_pos hk, Int.toNat_natCast]
    · have hb : Tp.by 8 (nums l.length) l k n = none := by unfold Tp.by; rw [if_neg hk]
      rw [hb, if_neg hk]
      show Tp.mk k n (Tp.putL 8 (nums l.length) l ks) = _
      rw [Tp.putL_inst l ks (fun m hm => h m (List.mem_append_right _ hm))]
theorem Tp.putL_inst (l : List Tp) : ∀ ts : List Tp, (∀ n ∈ Tp.allL 8 ts, 0 ≤ n ∧ n < l.length) → Tp.putL 8 (nums l.length) l ts = Tp.instL (fun i => l.getD i.toNat (.mk 0 0 [])) ts
  | [], h => by rw [Tp.putL, Tp.instL]
  | x :: r, h => by
    rw [Tp.allL] at h
    rw [Tp.putL, Tp.instL, Tp.put_inst l x (fun m hm => h m (List.mem_append_left _ hm)), Tp.putL_inst l r (fun m hm => h m (List.mem_append_right _ hm))]
end
/-- What Instance answers of a right scheme with as many types. -/
theorem insta_eq {g : Int} {t : Tp} {l : List Tp} (hr : Tp.rightS g t = true) (hl : (l.length : Int) = g) : Tp.insta g t l = if 1000 < (Tp.inst (fun i => l.getD i.toNat (.mk 0 0 [])) t).cnt then (Tp.zero, 3) else (Tp.inst (fun i => l.getD i.toNat (.mk 0 0 [])) t, 0) := by
  unfold Tp.insta
  rw [if_pos ⟨hr, hl⟩]
  unfold Tp.repl
  rw [if_neg (by simp [nums]), Tp.put_inst l t (fun n hn => by have := (rightS_all hr n).1 hn; omega)]
theorem insta_ok {g : Int} {t : Tp} {l : List Tp} {x : Tp} (h : Tp.insta g t l = (x, 0)) : Tp.rightS g t = true ∧ (l.length : Int) = g ∧ x = Tp.inst (fun i => l.getD i.toNat (.mk 0 0 [])) t := by
  by_cases hc : Tp.rightS g t = true ∧ (l.length : Int) = g
  · rw [insta_eq hc.1 hc.2] at h
    split at h
    · have := (Prod.mk.inj h).2; omega
    · exact ⟨hc.1, hc.2, (Prod.mk.inj h).1.symm⟩
  · unfold Tp.insta at h
    rw [if_neg hc] at h
    have := (Prod.mk.inj h).2
    omega
mutual
theorem Tp.inst_right2 (τ : Int → Tp) : ∀ t : Tp, t.right = true → (∀ n ∈ Tp.all 8 t, (τ n).right = true) → (Tp.inst τ t).right = true
  | .mk k n ks, ht, h => by
    rw [Tp.all] at h
    rw [Tp.inst]
    by_cases hk : k = 8
    · rw [if_pos hk]; exact h n (by rw [if_pos hk]; simp)
    · rw [Tp.right, Bool.and_eq_true] at ht
      rw [if_neg hk, Tp.right, Bool.and_eq_true]
      refine ⟨?_, Tp.instL_right2 τ ks ht.2 (fun m hm => h m (List.mem_append_right _ hm))⟩
      rw [Tp.instL_map, List.length_map]
      exact ht.1
theorem Tp.instL_right2 (τ : Int → Tp) : ∀ l : List Tp, Tp.rightL l = true → (∀ n ∈ Tp.allL 8 l, (τ n).right = true) → Tp.rightL (Tp.instL τ l) = true
  | [], ht, h => by rw [Tp.instL, Tp.rightL]
  | x :: r, ht, h => by
    rw [Tp.allL] at h
    rw [Tp.rightL, Bool.and_eq_true] at ht
    rw [Tp.instL, Tp.rightL, Bool.and_eq_true]
    exact ⟨Tp.inst_right2 τ x ht.1 (fun m hm => h m (List.mem_append_left _ hm)), Tp.instL_right2 τ r ht.2 (fun m hm => h m (List.mem_append_right _ hm))⟩
end
mutual
theorem Tp.ren_right (f : Int → Int → Int × Int) : ∀ t : Tp, t.right = true → (∀ k n, n ∈ Tp.all k t → f k n = (k, n) ∨ (k = 7 ∨ k = 8) ∧ (f k n).1 = 8 ∧ 0 ≤ (f k n).2) → (Tp.ren f t).right = true
  | .mk k n ks, ht, h => by
    rw [Tp.right, Bool.and_eq_true] at ht
    rw [Tp.ren, Tp.right, Bool.and_eq_true]
    refine ⟨?_, Tp.renL_right f ks ht.2 (fun k' n' h' => h k' n' (by rw [Tp.all]; exact List.mem_append_right _ h'))⟩
    rw [Tp.renL_map, List.length_map]
    rcases h k n (by rw [Tp.all, if_pos rfl]; simp) with e | ⟨hk, e1, e2⟩
    · rw [e]; exact ht.1
    · rw [e1]
      have h1 := ht.1
      unfold Tp.own at h1 ⊢
      rcases hk with rfl | rfl
      · simp at h1 ⊢; exact ⟨e2, h1.2⟩
      · simp at h1 ⊢; exact ⟨e2, h1.2⟩
theorem Tp.renL_right (f : Int → Int → Int × Int) : ∀ l : List Tp, Tp.rightL l = true → (∀ k n, n ∈ Tp.allL k l → f k n = (k, n) ∨ (k = 7 ∨ k = 8) ∧ (f k n).1 = 8 ∧ 0 ≤ (f k n).2) → Tp.rightL (Tp.renL f l) = true
  | [], ht, h => by rw [Tp.renL, Tp.rightL]
  | x :: r, ht, h => by
    rw [Tp.rightL, Bool.and_eq_true] at ht
    rw [Tp.renL, Tp.rightL, Bool.and_eq_true]
    exact ⟨Tp.ren_right f x ht.1 (fun k n h' => h k n (by rw [Tp.allL]; exact List.mem_append_left _ h')), Tp.renL_right f r ht.2 (fun k n h' => h k n (by rw [Tp.allL]; exact List.mem_append_right _ h'))⟩
end
mutual
/-- The TGen of what is made anew, where only metas become some. -/
theorem Tp.all8_ren (f : Int → Int → Int × Int) (q : Int → Bool) : ∀ t : Tp, Tp.all 8 t = [] → (∀ n ∈ Tp.all 7 t, (q n = true → (f 7 n).1 = 8) ∧ (q n = false → (f 7 n).1 = 7)) → (∀ k n, k ≠ 7 → k ≠ 8 → (f k n).1 = k) → Tp.all 8 (Tp.ren f t) = ((Tp.all 7 t).filter q).map fun n => (f 7 n).2
  | .mk k n ks, h8, h7, ho => by
    rw [Tp.all] at h8 h7
    obtain ⟨h81, h82⟩ := List.append_eq_nil_iff.1 h8
    rw [Tp.ren, Tp.all, Tp.all, List.filter_append, List.map_append, Tp.all8L_ren f q ks h82 (fun m hm => h7 m (List.mem_append_right _ hm)) ho]
    congr 1
    have hk8 : k ≠ 8 := fun e => by rw [if_pos e] at h81; cases h81
    by_cases hk7 : k = 7
    · subst hk7
      have := h7 n (by simp)
      cases hq : q n with
      | true => rw [if_pos (this.1 hq)]; simp [hq]
      | false => rw [if_neg (by rw [this.2 hq]; decide)]; simp [hq]
    · rw [if_neg (by rw [ho k n hk7 hk8]; exact hk8), if_neg hk7]; rfl
theorem Tp.all8L_ren (f : Int → Int → Int × Int) (q : Int → Bool) : ∀ l : List Tp, Tp.allL 8 l = [] → (∀ n ∈ Tp.allL 7 l, (q n = true → (f 7 n).1 = 8) ∧ (q n = false → (f 7 n).1 = 7)) → (∀ k n, k ≠ 7 → k ≠ 8 → (f k n).1 = k) → Tp.allL 8 (Tp.renL f l) = ((Tp.allL 7 l).filter q).map fun n => (f 7 n).2
  | [], h8, h7, ho => by rw [Tp.renL, Tp.allL, Tp.allL]; rfl
  | x :: r, h8, h7, ho => by
    rw [Tp.allL] at h8 h7
    obtain ⟨h81, h82⟩ := List.append_eq_nil_iff.1 h8
    rw [Tp.renL, Tp.allL, Tp.allL, List.filter_append, List.map_append, Tp.all8_ren f q x h81 (fun m hm => h7 m (List.mem_append_left _ hm)) ho, Tp.all8L_ren f q r h82 (fun m hm => h7 m (List.mem_append_right _ hm)) ho]
end
/-- P1201: what is generalised is right. -/
theorem gen_right {t : Tp} {keep : List Int} (hr : t.right = true) (h8 : Tp.all 8 t = []) : Tp.rightS (Tp.open_ t keep).length (Tp.ren (plf (Tp.open_ t keep)) t) = true := by
  have hopen : Tp.open_ t keep = pls 7 ((Tp.found 7 t []).filter fun x => !decide (x ∈ keep)) := by
    unfold Tp.open_
    rw [Tp.found_dd 8, h8]
    simp [pls, dd]
  have hright : (Tp.ren (plf (Tp.open_ t keep)) t).right = true := by
    refine Tp.ren_right _ t hr fun k n hn => ?_
    unfold plf
    by_cases hm : (k, n) ∈ Tp.open_ t keep
    · rw [if_pos hm]
      refine .inr ⟨?_, rfl, by simp only; omega⟩
      rcases mem_open.1 hm with ⟨h, -⟩ | ⟨h, -⟩
      · exact .inl h
      · exact .inr h
    · rw [if_neg hm]; exact .inl rfl
  have hlen := kept_len t keep
  unfold Tp.rightS
  rw [hright, hlen]
  simp only [Bool.true_and, decide_true, Bool.and_true]
  -- they stand in order
  have hf : Tp.found 8 (Tp.ren (plf (Tp.open_ t keep)) t) [] = ((Tp.found 7 t []).filter fun x => !decide (x ∈ keep)).map fun n => (plf (Tp.open_ t keep) 7 n).2 := by
    rw [Tp.found_dd 8, Tp.all8_ren _ (fun x => !decide (x ∈ keep)) t h8 (fun n hn => ?_) (fun k n h1 h2 => ?_)]
    · have e := dd_inj (fun n => (plf (Tp.open_ t keep) 7 n).2) ((Tp.all 7 t).filter fun x => !decide (x ∈ keep)) [] ?_
      · rw [List.map_nil] at e
        rw [e, Tp.found_dd 7, dd_filter]
        rfl
      · intro x hx y hy e
        rw [List.nil_append] at hx hy
        obtain ⟨x1, x2⟩ := List.mem_filter.1 hx
        obtain ⟨y1, y2⟩ := List.mem_filter.1 hy
        have mx : (7, x) ∈ Tp.open_ t keep := mem_open.2 (.inl ⟨rfl, x1, by simpa using x2⟩)
        have my : (7, y) ∈ Tp.open_ t keep := mem_open.2 (.inl ⟨rfl, y1, by simpa using y2⟩)
        unfold plf at e
        rw [if_pos mx, if_pos my] at e
        have e' : (Tp.open_ t keep).idxOf (7, x) = (Tp.open_ t keep).idxOf (7, y) := by simp only at e; omega
        have gx := List.getElem_idxOf (List.idxOf_lt_length_iff.2 mx)
        have gy := List.getElem_idxOf (List.idxOf_lt_length_iff.2 my)
        have : ((7 : Int), x) = (7, y) := by rw [← gx, ← gy]; congr 1
        exact (Prod.mk.inj this).2
    · unfold plf
      constructor
      · intro hq
        rw [if_pos (mem_open.2 (.inl ⟨rfl, hn, by simpa using hq⟩))]
      · intro hq
        rw [if_neg]
        intro hm
        rcases mem_open.1 hm with ⟨-, -, h⟩ | ⟨h, -⟩
        · exact h (by simpa using hq)
        · exact absurd h (by decide)
    · unfold plf
      rw [if_neg]
      intro hm
      rcases mem_open.1 hm with ⟨h, -⟩ | ⟨h, -⟩
      · exact h1 h
      · exact h2 h
  rw [hf]
  have hups : ∀ (l : List Int) (i : Nat), (∀ j (hj : j < l.length), l[j] = ((i + j : Nat) : Int)) → Tp.ups l i = true := by
    intro l
    induction l with
    | nil => intro i _; rfl
    | cons x r ih =>
      intro i h
      rw [Tp.ups, Bool.and_eq_true, decide_eq_true_eq]
      refine ⟨by have := h 0 (by simp); simpa using this, ih (i + 1) fun j hj => ?_⟩
      have := h (j + 1) (by simp; omega)
      simp only [List.getElem_cons_succ] at this
      rw [this]
      congr 1
      omega
  refine hups _ 0 fun j hj => ?_
  rw [List.length_map] at hj
  rw [List.getElem_map]
  have hm : (7, ((Tp.found 7 t []).filter fun x => !decide (x ∈ keep))[j]) ∈ Tp.open_ t keep := by rw [hopen]; exact List.mem_map.2 ⟨_, List.getElem_mem hj, rfl⟩
  unfold plf
  rw [if_pos hm]
  have hj2 : j < (Tp.open_ t keep).length := by rw [hopen]; unfold pls; rw [List.length_map]; exact hj
  have hg : (Tp.open_ t keep)[j] = (7, ((Tp.found 7 t []).filter fun x => !decide (x ∈ keep))[j]) := by
    simp only [hopen, pls, List.getElem_map]
  rw [← hg, (open_nodup t keep).idxOf_getElem j hj2]
  simp
end Go.Proofs.Ythijckdhndbdoaa
