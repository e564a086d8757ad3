/- What stands in a type: plain mathematics. -/
import Derived.Test.YtknlpeloaapaiaaTsP
import Derived.Test.YtknlpeloaapaiaaTpA
namespace Go.Proofs.Ytknlpeloaapaiaa
open Go.RowKit
set_option linter.unusedVariables false
set_option linter.unusedSimpArgs false

mutual
/-- The nodes of a kind, from the left. -/
def Tp.all (kind : Int) : Tp → List Int
  | .mk k n ks => (if k = kind then [n] else []) ++ Tp.allL kind ks
def Tp.allL (kind : Int) : List Tp → List Int
  | [] => []
  | x :: r => Tp.all kind x ++ Tp.allL kind r
end
/-- A list without what comes again. -/
def dd (l : List Int) (xs : List Int) : List Int := xs.foldl Tp.ins l
mutual
theorem Tp.found_dd (kind : Int) : ∀ (t : Tp) (l : List Int), Tp.found kind t l = dd l (Tp.all kind t)
  | .mk k n ks, l => by
    rw [Tp.found_mk, Tp.all, Tp.foundL_dd kind ks]
    by_cases h : k = kind
    · rw [if_pos h, if_pos h]; rfl
    · rw [if_neg h, if_neg h]; rfl
theorem Tp.foundL_dd (kind : Int) : ∀ (ts : List Tp) (l : List Int), Tp.foundL kind ts l = dd l (Tp.allL kind ts)
  | [], l => by rw [Tp.foundL_nil, Tp.allL]; rfl
  | x :: r, l => by rw [Tp.foundL_cons, Tp.allL, Tp.found_dd kind x, Tp.foundL_dd kind r]; unfold dd; rw [List.foldl_append]
end
theorem mem_ins {l : List Int} {n x : Int} : x ∈ Tp.ins l n ↔ x ∈ l ∨ x = n := by
  unfold Tp.ins
  by_cases h : n ∈ l
  · rw [if_pos h]
    constructor
    · exact .inl
    · rintro (h1 | rfl)
      · exact h1
      · exact h
  · rw [if_neg h]; simp
theorem mem_dd : ∀ {xs l : List Int} {x : Int}, x ∈ dd l xs ↔ x ∈ l ∨ x ∈ xs
  | [], l, x => by simp [dd]
  | y :: r, l, x => by
    show x ∈ dd (Tp.ins l y) r ↔ _
    rw [mem_dd, mem_ins]
    simp [or_assoc]
theorem dd_nodup : ∀ (xs l : List Int), l.Nodup → (dd l xs).Nodup
  | [], l, h => h
  | y :: r, l, h => by
    show (dd (Tp.ins l y) r).Nodup
    refine dd_nodup r _ ?_
    unfold Tp.ins
    by_cases hm : y ∈ l
    · rw [if_pos hm]; exact h
    · rw [if_neg hm]
      rw [List.nodup_append]
      refine ⟨h, by simp, fun a ha b hb e => ?_⟩
      rw [List.mem_singleton.1 hb] at e
      exact hm (e ▸ ha)
theorem dd_len : ∀ (xs l : List Int), (dd l xs).length ≤ l.length + xs.length
  | [], l => by simp [dd]
  | y :: r, l => by
    have h := dd_len r (Tp.ins l y)
    have h2 : (Tp.ins l y).length ≤ l.length + 1 := by
      unfold Tp.ins
      split
      · omega
      · simp
    show (dd (Tp.ins l y) r).length ≤ _
    simp only [List.length_cons]
    omega
mutual
theorem Tp.all_len (kind : Int) : ∀ t : Tp, (Tp.all kind t).length ≤ t.cnt
  | .mk k n ks => by
    rw [Tp.all, Tp.cnt, List.length_append]
    have := Tp.allL_len kind ks
    split
    · simp; omega
    · simp; omega
theorem Tp.allL_len (kind : Int) : ∀ l : List Tp, (Tp.allL kind l).length ≤ Tp.cntL l
  | [] => by rw [Tp.allL]; simp
  | x :: r => by
    rw [Tp.allL, Tp.cntL, List.length_append]
    have := Tp.all_len kind x
    have := Tp.allL_len kind r
    omega
end
theorem Tp.found_len (kind : Int) (t : Tp) : (Tp.found kind t []).length ≤ t.cnt := by
  rw [Tp.found_dd]
  have h1 := dd_len (Tp.all kind t) []
  have h2 := Tp.all_len kind t
  simp only [List.length_nil] at h1
  omega
theorem Tp.found_nodup (kind : Int) (t : Tp) : (Tp.found kind t []).Nodup := by rw [Tp.found_dd]; exact dd_nodup _ _ (by simp)
theorem Tp.mem_fnd {kind : Int} {t : Tp} {x : Int} : x ∈ Tp.found kind t [] ↔ x ∈ Tp.all kind t := by rw [Tp.found_dd, mem_dd]; simp
theorem Tp.mem_allL {kind : Int} {x : Int} : ∀ {l : List Tp}, x ∈ Tp.allL kind l ↔ ∃ t ∈ l, x ∈ Tp.all kind t
  | [] => by rw [Tp.allL]; simp
  | y :: r => by rw [Tp.allL, List.mem_append, Tp.mem_allL]; simp
theorem Tp.all_eq (kind : Int) (t : Tp) : Tp.all kind t = (if t.k = kind then [t.n] else []) ++ Tp.allL kind t.ks := by
  obtain ⟨k, n, ks⟩ := t
  rw [Tp.all]; rfl
theorem TAt.all64 {w : World} {K : Nat → Prop} (kind : Int) : ∀ {n : Nat} {vs : List Value} {t : Tp}, TAt w K n vs t → ∀ x ∈ Tp.all kind t, R64 x
  | 0, _, _, h, _, _ => h.elim
  | n + 1, vs, t, ⟨v, h1, h2, h3, h4⟩, x, hx => by
    rw [Tp.all_eq] at hx
    rcases List.mem_append.1 hx with hx | hx
    · split at hx
      · rw [List.mem_singleton.1 hx]; exact h3
      · cases hx
    · obtain ⟨y, hy, hxy⟩ := Tp.mem_allL.1 hx
      rcases h4 with ⟨b, o, c, hv, hb, hl, hm, hc⟩ | ⟨h0, -⟩
      · obtain ⟨i, hi⟩ := List.getElem?_of_mem hy
        obtain ⟨vs', -, g2⟩ := hc i y hi
        exact TAt.all64 kind g2 x hxy
      · rw [h0] at hy; cases hy
theorem TAt.found64 {w : World} {K : Nat → Prop} (kind : Int) {n : Nat} {vs : List Value} {t : Tp} (h : TAt w K n vs t) : ∀ x ∈ Tp.found kind t [], R64 x := fun x hx => h.all64 kind x (Tp.mem_fnd.1 hx)
end Go.Proofs.Ytknlpeloaapaiaa
