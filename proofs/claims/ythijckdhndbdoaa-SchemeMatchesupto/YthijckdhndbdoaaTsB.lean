/- Instantiated and generalised again: plain mathematics. -/
import Derived.Test.YthijckdhndbdoaaTsY
namespace Go.Proofs.Ythijckdhndbdoaa
open Go.RowKit
set_option linter.unusedVariables false
set_option linter.unusedSimpArgs false

theorem ins_filter (q : Int → Bool) (l : List Int) (x : Int) : (Tp.ins l x).filter q = if q x = true then Tp.ins (l.filter q) x else l.filter q := by
  unfold Tp.ins
  by_cases hm : x ∈ l
  · rw [if_pos hm]
    by_cases hq : q x = true
    · rw [if_pos hq, if_pos (List.mem_filter.2 ⟨hm, hq⟩)]
    · rw [if_neg hq]
  · rw [if_neg hm, List.filter_append]
    by_cases hq : q x = true
    · rw [if_pos hq, if_neg (fun h => hm (List.mem_filter.1 h).1)]; simp [hq]
    · rw [if_neg hq]; simp [hq]
theorem dd_filter (q : Int → Bool) : ∀ (xs l : List Int), (dd l xs).filter q = dd (l.filter q) (xs.filter q)
  | [], l => rfl
  | y :: r, l => by
    show (dd (Tp.ins l y) r).filter q = _
    rw [dd_filter q r, ins_filter]
    by_cases hq : q y = true
    · rw [if_pos hq, List.filter_cons_of_pos hq]; rfl
    · rw [if_neg hq, List.filter_cons_of_neg hq]
theorem dd_map (a : Int) : ∀ (xs l : List Int), dd (l.map (a + ·)) (xs.map (a + ·)) = (dd l xs).map (a + ·)
  | [], l => rfl
  | y :: r, l => by
    show dd (Tp.ins (l.map (a + ·)) (a + y)) (r.map (a + ·)) = (dd (Tp.ins l y) r).map (a + ·)
    rw [← dd_map a r]
    congr 1
    unfold Tp.ins
    by_cases h : y ∈ l
    · rw [if_pos h, if_pos (List.mem_map.2 ⟨y, h, rfl⟩)]
    · rw [if_neg h, if_neg, List.map_append]
      · rfl
      · intro h2
        obtain ⟨z, hz, e⟩ := List.mem_map.1 h2
        exact h (by have : z = y := by omega
                    exact this ▸ hz)
theorem ups_range : ∀ (l : List Int) (i : Nat), Tp.ups l i = true → l = (List.range l.length).map fun j => ((i + j : Nat) : Int)
  | [], i, _ => rfl
  | y :: r, i, h => by
    rw [Tp.ups, Bool.and_eq_true, decide_eq_true_eq] at h
    rw [List.length_cons, List.range_succ_eq_map, List.map_cons, List.map_map, h.1]
    congr 1
    conv => lhs; rw [ups_range r (i + 1) h.2]
    apply List.map_congr_left
    intro j _
    simp only [Function.comp]
    congr 1
    omega
mutual
/-- What is new among the metas. -/
theorem Tp.all_mff (next : Int) (keep : List Int) : ∀ t : Tp, (∀ n ∈ Tp.all 8 t, wrap64 (next + n) = next + n ∧ next + n ∉ keep) → (∀ n ∈ Tp.all 7 t, n ∈ keep) → (Tp.all 7 (Tp.ren (mff next) t)).filter (fun x => !decide (x ∈ keep)) = (Tp.all 8 t).map (next + ·)
  | .mk k n ks, h8, h7 => by
    rw [Tp.all] at h8 h7
    rw [Tp.ren, Tp.all, Tp.all, List.filter_append, List.map_append, Tp.allL_mff next keep ks (fun m hm => h8 m (List.mem_append_right _ hm)) (fun m hm => h7 m (List.mem_append_right _ hm))]
    congr 1
    unfold mff
    by_cases hk : k = 8
    · rw [if_pos hk, if_pos hk]
      have := h8 n (by rw [if_pos hk]; simp)
      simp [this.1, this.2]
    · rw [if_neg hk, if_neg hk]
      by_cases hk7 : k = 7
      · have := h7 n (by rw [if_pos hk7]; simp)
        simp [hk7, this]
      · simp [hk7]
theorem Tp.allL_mff (next : Int) (keep : List Int) : ∀ l : List Tp, (∀ n ∈ Tp.allL 8 l, wrap64 (next + n) = next + n ∧ next + n ∉ keep) → (∀ n ∈ Tp.allL 7 l, n ∈ keep) → (Tp.allL 7 (Tp.renL (mff next) l)).filter (fun x => !decide (x ∈ keep)) = (Tp.allL 8 l).map (next + ·)
  | [], h8, h7 => by rw [Tp.renL, Tp.allL, Tp.allL]; rfl
  | x :: r, h8, h7 => by
    rw [Tp.allL] at h8 h7
    rw [Tp.renL, Tp.allL, Tp.allL, List.filter_append, List.map_append, Tp.all_mff next keep x (fun m hm => h8 m (List.mem_append_left _ hm)) (fun m hm => h7 m (List.mem_append_left _ hm)), Tp.allL_mff next keep r (fun m hm => h8 m (List.mem_append_right _ hm)) (fun m hm => h7 m (List.mem_append_right _ hm))]
end
mutual
theorem Tp.all8_mff (next : Int) : ∀ t : Tp, Tp.all 8 (Tp.ren (mff next) t) = []
  | .mk k n ks => by
    rw [Tp.ren, Tp.all, Tp.all8L_mff next ks]
    unfold mff
    by_cases hk : k = 8
    · rw [if_pos hk]; rfl
    · rw [if_neg hk]; simp [hk]
theorem Tp.all8L_mff (next : Int) : ∀ l : List Tp, Tp.allL 8 (Tp.renL (mff next) l) = []
  | [] => by rw [Tp.renL, Tp.allL]
  | x :: r => by rw [Tp.renL, Tp.allL, Tp.all8_mff next x, Tp.all8L_mff next r]; rfl
end
mutual
/-- Made anew twice. -/
theorem Tp.ren_ren (f g : Int → Int → Int × Int) : ∀ t : Tp, Tp.ren f (Tp.ren g t) = Tp.ren (fun k n => f (g k n).1 (g k n).2) t
  | .mk k n ks => by rw [Tp.ren, Tp.ren, Tp.ren, Tp.renL_ren f g ks]
theorem Tp.renL_ren (f g : Int → Int → Int × Int) : ∀ l : List Tp, Tp.renL f (Tp.renL g l) = Tp.renL (fun k n => f (g k n).1 (g k n).2) l
  | [] => by rw [Tp.renL, Tp.renL, Tp.renL]
  | x :: r => by rw [Tp.renL, Tp.renL, Tp.renL, Tp.ren_ren f g x, Tp.renL_ren f g r]
end
mutual
/-- What changes nothing that stands there. -/
theorem Tp.ren_same (f : Int → Int → Int × Int) : ∀ t : Tp, (∀ k n, n ∈ Tp.all k t → f k n = (k, n)) → Tp.ren f t = t
  | .mk k n ks, h => by
    rw [Tp.ren, Tp.renL_same f ks (fun k' n' h' => h k' n' (by rw [Tp.all]; exact List.mem_append_right _ h')), h k n (by rw [Tp.all, if_pos rfl]; simp)]
theorem Tp.renL_same (f : Int → Int → Int × Int) : ∀ l : List Tp, (∀ k n, n ∈ Tp.allL k l → f k n = (k, n)) → Tp.renL f l = l
  | [], h => by rw [Tp.renL]
  | x :: r, h => by
    rw [Tp.renL, Tp.ren_same f x (fun k n h' => h k n (by rw [Tp.allL]; exact List.mem_append_left _ h')), Tp.renL_same f r (fun k n h' => h k n (by rw [Tp.allL]; exact List.mem_append_right _ h'))]
end
theorem idx_range (kind a : Int) (g i : Nat) (hi : i < g) : ((List.range g).map fun (j : Nat) => (kind, a + (j : Int))).idxOf (kind, a + (i : Int)) = i := by
  have hmem : (kind, a + (i : Int)) ∈ (List.range g).map fun (j : Nat) => (kind, a + (j : Int)) := List.mem_map.2 ⟨i, List.mem_range.2 hi, rfl⟩
  have hlt := List.idxOf_lt_length_iff.2 hmem
  have he := List.getElem_idxOf hlt
  generalize List.idxOf (kind, a + (i : Int)) ((List.range g).map fun (j : Nat) => (kind, a + (j : Int))) = m at hlt he
  rw [List.getElem_map, List.getElem_range] at he
  have := (Prod.mk.inj he).2
  omega
/-- P1203. -/
theorem back_eq {g : Nat} {next : Int} {t : Tp} (hr : Tp.rightS g t = true) (h0 : 0 ≤ next) (h1 : next ≤ 2147483647) (hg : g ≤ 1048576) (hab : ∀ n ∈ Tp.all 7 t, n < next) :
    (Tp.open_ (Tp.ren (mff next) t) (Tp.found 7 t [])).length = g ∧ Tp.ren (plf (Tp.open_ (Tp.ren (mff next) t) (Tp.found 7 t []))) (Tp.ren (mff next) t) = t := by
  have hall := rightS_all hr
  have h8 : ∀ n ∈ Tp.all 8 t, wrap64 (next + n) = next + n ∧ next + n ∉ Tp.found 7 t [] := by
    intro n hn
    have hn := (hall n).1 hn
    refine ⟨by unfold wrap64; omega, fun h => ?_⟩
    have := hab _ (Tp.mem_fnd.1 h)
    omega
  have h7 : ∀ n ∈ Tp.all 7 t, n ∈ Tp.found 7 t [] := fun n hn => Tp.mem_fnd.2 hn
  have hlist : (Tp.found 7 (Tp.ren (mff next) t) []).filter (fun x => !decide (x ∈ Tp.found 7 t [])) = (List.range g).map fun (j : Nat) => next + (j : Int) := by
    rw [Tp.found_dd 7 (Tp.ren (mff next) t), dd_filter, Tp.all_mff next _ t h8 h7]
    have e1 : dd (List.filter (fun x => !decide (x ∈ Tp.found 7 t [])) []) ((Tp.all 8 t).map (next + ·)) = (dd [] (Tp.all 8 t)).map (next + ·) := dd_map next (Tp.all 8 t) []
    rw [e1, ← Tp.found_dd]
    unfold Tp.rightS at hr
    simp only [Bool.and_eq_true, decide_eq_true_eq] at hr
    have hlen : (Tp.found 8 t []).length = g := by omega
    rw [ups_range _ 0 hr.2.1, hlen, List.map_map]
    apply List.map_congr_left
    intro j _
    simp
  have hopen : Tp.open_ (Tp.ren (mff next) t) (Tp.found 7 t []) = (List.range g).map fun (j : Nat) => ((7 : Int), next + (j : Int)) := by
    unfold Tp.open_
    rw [hlist, Tp.found_dd 8, Tp.all8_mff]
    simp [pls, dd]
  rw [hopen]
  refine ⟨by simp, ?_⟩
  rw [Tp.ren_ren]
  refine Tp.ren_same _ t fun k n hn => ?_
  have hmem : ∀ k' n', (k', n') ∈ (List.range g).map (fun (j : Nat) => ((7 : Int), next + (j : Int))) ↔ k' = 7 ∧ next ≤ n' ∧ n' < next + g := by
    intro k' n'
    rw [List.mem_map]
    constructor
    · rintro ⟨j, hj, e⟩
      have := List.mem_range.1 hj
      have e1 := (Prod.mk.inj e).1
      have e2 := (Prod.mk.inj e).2
      exact ⟨e1.symm, by omega, by omega⟩
    · rintro ⟨rfl, h2, h3⟩
      exact ⟨(n' - next).toNat, List.mem_range.2 (by omega), by rw [Prod.mk.injEq]; exact ⟨rfl, by omega⟩⟩
  unfold mff
  by_cases hk : k = 8
  · subst hk
    rw [if_pos rfl]
    have hn2 := (hall n).1 hn
    rw [(h8 n hn).1]
    unfold plf
    rw [if_pos ((hmem _ _).2 ⟨rfl, by simp only; omega, by simp only; omega⟩)]
    obtain ⟨i, rfl⟩ : ∃ i : Nat, n = i := ⟨n.toNat, by omega⟩
    rw [idx_range 7 next g i (by omega)]
  · rw [if_neg hk]
    unfold plf
    rw [if_neg]
    intro h
    have := (hmem _ _).1 h
    simp only at this
    have hlt := hab n (by rw [← this.1]; exact hn)
    omega
end Go.Proofs.Ythijckdhndbdoaa
