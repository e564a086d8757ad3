/- Instances: plain mathematics. -/
import Derived.Test.YtknlpeloaapaiaaTsP2
namespace Go.Proofs.Ytknlpeloaapaiaa
open Go.RowKit
set_option linter.unusedVariables false
set_option linter.unusedSimpArgs false

mutual
/-- With a type for each TGen. -/
def Tp.inst (τ : Int → Tp) : Tp → Tp
  | .mk k n ks => if k = 8 then τ n else .mk k n (Tp.instL τ ks)
def Tp.instL (τ : Int → Tp) : List Tp → List Tp
  | [] => []
  | x :: r => Tp.inst τ x :: Tp.instL τ r
end
theorem Tp.instL_map (τ : Int → Tp) : ∀ l : List Tp, Tp.instL τ l = l.map (Tp.inst τ)
  | [] => by rw [Tp.instL]; rfl
  | x :: r => by rw [Tp.instL, Tp.instL_map τ r]; rfl
theorem Tp.inst_8 (τ : Int → Tp) {t : Tp} (h : t.k = 8) : Tp.inst τ t = τ t.n := by
  obtain ⟨k, n, ks⟩ := t
  rw [Tp.inst]; exact if_pos h
theorem Tp.inst_no (τ : Int → Tp) {t : Tp} (h : t.k ≠ 8) : Tp.inst τ t = .mk t.k t.n (t.ks.map (Tp.inst τ)) := by
  obtain ⟨k, n, ks⟩ := t
  rw [Tp.inst, Tp.instL_map]; exact if_neg h
theorem Tp.eta12 (t : Tp) : t = .mk t.k t.n t.ks := by cases t; rfl
mutual
/-- Two that agree on what stands there. -/
theorem Tp.inst_congr (τ σ : Int → Tp) : ∀ t : Tp, (∀ n ∈ Tp.all 8 t, τ n = σ n) → Tp.inst τ t = Tp.inst σ t
  | .mk k n ks, h => by
    rw [Tp.all] at h
    rw [Tp.inst, Tp.inst]
    by_cases hk : k = 8
    · rw [if_pos hk, if_pos hk]
      exact h n (by rw [if_pos hk]; simp)
    · rw [if_neg hk, if_neg hk, Tp.instL_congr τ σ ks (fun m hm => h m (List.mem_append_right _ hm))]
theorem Tp.instL_congr (τ σ : Int → Tp) : ∀ l : List Tp, (∀ n ∈ Tp.allL 8 l, τ n = σ n) → Tp.instL τ l = Tp.instL σ l
  | [], h => by rw [Tp.instL, Tp.instL]
  | x :: r, h => by
    rw [Tp.allL] at h
    rw [Tp.instL, Tp.instL, Tp.inst_congr τ σ x (fun m hm => h m (List.mem_append_left _ hm)), Tp.instL_congr τ σ r (fun m hm => h m (List.mem_append_right _ hm))]
end
mutual
/-- And the other way round: of right types (a TGen has no parts). -/
theorem Tp.inst_inj (τ σ : Int → Tp) : ∀ t : Tp, t.right = true → Tp.inst τ t = Tp.inst σ t → ∀ n ∈ Tp.all 8 t, τ n = σ n
  | .mk k n ks, hr, h, m, hm => by
    rw [Tp.all] at hm
    rw [Tp.inst, Tp.inst] at h
    rw [Tp.right, Bool.and_eq_true] at hr
    by_cases hk : k = 8
    · subst hk
      rw [if_pos rfl, if_pos rfl] at h
      have hz : ks = [] := by
        have := hr.1
        unfold Tp.own at this
        simp at this
        exact this.2
      subst hz
      rw [if_pos rfl, Tp.allL] at hm
      simp at hm
      rw [hm]; exact h
    · rw [if_neg hk, if_neg hk] at h
      injection h with _ _ h
      rw [if_neg hk, List.nil_append] at hm
      exact Tp.instL_inj τ σ ks hr.2 h m hm
theorem Tp.instL_inj (τ σ : Int → Tp) : ∀ l : List Tp, Tp.rightL l = true → Tp.instL τ l = Tp.instL σ l → ∀ n ∈ Tp.allL 8 l, τ n = σ n
  | [], hr, h, m, hm => by rw [Tp.allL] at hm; cases hm
  | x :: r, hr, h, m, hm => by
    rw [Tp.instL, Tp.instL] at h
    injection h with h1 h2
    rw [Tp.rightL, Bool.and_eq_true] at hr
    rw [Tp.allL] at hm
    rcases List.mem_append.1 hm with hm | hm
    · exact Tp.inst_inj τ σ x hr.1 h1 m hm
    · exact Tp.instL_inj τ σ r hr.2 h2 m hm
end
/-- A pair that waits: pointers and what they point at. -/
structure Pr where
  p : Value
  q : Value
  s : Tp
  t : Tp
/-- τ keeps what was found, and makes the same of every pair. -/
def Sol (τ : Int → Tp) (fd : List (Option Tp)) (ps : List Pr) : Prop := (∀ (i : Nat) t, fd[i]? = some (some t) → τ i = t) ∧ ∀ r ∈ ps, Tp.inst τ r.s = r.t
theorem Sol.snoc {τ : Int → Tp} {fd : List (Option Tp)} {ps : List Pr} {r : Pr} : Sol τ fd (ps ++ [r]) ↔ Sol τ fd ps ∧ Tp.inst τ r.s = r.t := by
  unfold Sol
  constructor
  · rintro ⟨h1, h2⟩
    exact ⟨⟨h1, fun x hx => h2 x (List.mem_append_left _ hx)⟩, h2 r (by simp)⟩
  · rintro ⟨⟨h1, h2⟩, h3⟩
    refine ⟨h1, fun x hx => ?_⟩
    rcases List.mem_append.1 hx with hx | hx
    · exact h2 x hx
    · rw [List.mem_singleton.1 hx]; exact h3
/-- The pairs of two lists of parts. -/
def kidsOf (pf : Nat → Value) (pt : Nat → Value) (l m : List Tp) (k : Nat) : List Pr := (List.range k).map fun i => ⟨pf i, pt i, l.getD i (.mk 0 0 []), m.getD i (.mk 0 0 [])⟩
theorem Sol.kids {τ : Int → Tp} {fd : List (Option Tp)} {ps : List Pr} {pf pt : Nat → Value} {s t : Tp} (hk : s.k ≠ 8) (h1 : s.k = t.k) (h2 : s.n = t.n) (hl : s.ks.length = t.ks.length) : Sol τ fd (ps ++ kidsOf pf pt s.ks t.ks s.ks.length) ↔ Sol τ fd ps ∧ Tp.inst τ s = t := by
  have he : Tp.inst τ s = t ↔ s.ks.map (Tp.inst τ) = t.ks := by
    rw [Tp.inst_no τ hk, Tp.eta12 t, h1, h2]
    constructor
    · intro h; injection h
    · intro h; rw [h]; rfl
  rw [he]
  unfold Sol
  constructor
  · rintro ⟨g1, g2⟩
    refine ⟨⟨g1, fun x hx => g2 x (List.mem_append_left _ hx)⟩, ?_⟩
    apply List.ext_getElem
    · rw [List.length_map]; exact hl
    · intro i hi hi'
      rw [List.length_map] at hi
      have := g2 _ (List.mem_append_right _ (List.mem_map.2 ⟨i, List.mem_range.2 hi, rfl⟩))
      simp only [List.getD_eq_getElem?_getD] at this
      rw [List.getElem?_eq_getElem hi, List.getElem?_eq_getElem hi'] at this
      rw [List.getElem_map]
      exact this
  · rintro ⟨⟨g1, g2⟩, g3⟩
    refine ⟨g1, fun x hx => ?_⟩
    rcases List.mem_append.1 hx with hx | hx
    · exact g2 x hx
    · obtain ⟨i, hi, rfl⟩ := List.mem_map.1 hx
      have hi := List.mem_range.1 hi
      simp only [List.getD_eq_getElem?_getD]
      rw [← g3, List.getElem?_map, List.getElem?_eq_getElem hi]
      rfl
theorem Sol.find {τ : Int → Tp} {fd : List (Option Tp)} {ps : List Pr} {i : Nat} {t : Tp} (hi : fd[i]? = some none) : Sol τ (fd.set i (some t)) ps ↔ Sol τ fd ps ∧ τ i = t := by
  unfold Sol
  have hlt : i < fd.length := (List.getElem?_eq_some_iff.1 hi).1
  constructor
  · rintro ⟨h1, h2⟩
    refine ⟨⟨fun j u hj => h1 j u ?_, h2⟩, h1 i t (List.getElem?_set_self hlt)⟩
    by_cases he : i = j
    · subst he; rw [hi] at hj; cases hj
    · rw [List.getElem?_set_ne he]; exact hj
  · rintro ⟨⟨h1, h2⟩, h3⟩
    refine ⟨fun j u hj => ?_, h2⟩
    by_cases he : i = j
    · subst he
      rw [List.getElem?_set_self hlt] at hj
      injection hj with hj
      injection hj with hj
      rw [h3, hj]
    · rw [List.getElem?_set_ne he] at hj
      exact h1 j u hj
/-- Where nothing waits, all that stands in a right type was found. -/
theorem Sol.whole {fd : List (Option Tp)} {a b : Tp} (ha : a.right = true) (h : ∀ τ, Sol τ fd [] ↔ Tp.inst τ a = b) : ∀ n : Nat, (n : Int) ∈ Tp.all 8 a → n < fd.length → ∃ t, fd[n]? = some (some t) := by
  intro n hn hlt
  cases hf : fd[n]? with
  | none => rw [List.getElem?_eq_none_iff] at hf; omega
  | some x =>
    cases x with
    | some t => exact ⟨t, rfl⟩
    | none =>
      exfalso
      have mk : ∀ z : Tp, Sol (fun i => if i = n then z else ((fd.getD i.toNat none).getD z)) fd [] := by
        intro z
        refine ⟨fun i t hi => ?_, fun r hr => by cases hr⟩
        by_cases he : (i : Int) = n
        · have : i = n := by omega
          subst this
          rw [hf] at hi; cases hi
        · simp only [if_neg he, Int.toNat_natCast, List.getD_eq_getElem?_getD, hi]
          rfl
      have h1 := (h _).1 (mk (.mk 0 0 []))
      have h2 := (h _).1 (mk (.mk 1 0 []))
      have h3 := Tp.inst_inj _ _ a ha (h1.trans h2.symm) n hn
      simp at h3
end Go.Proofs.Ytknlpeloaapaiaa
