/- What is kept: plain mathematics. -/
import Derived.Test.YthijckdhndbdoaaTsB
namespace Go.Proofs.Ythijckdhndbdoaa
open Go.RowKit
set_option linter.unusedVariables false
set_option linter.unusedSimpArgs false

mutual
theorem Tp.mem_ren (f : Int → Int → Int × Int) (K x : Int) : ∀ t : Tp, x ∈ Tp.all K (Tp.ren f t) ↔ ∃ k n, n ∈ Tp.all k t ∧ f k n = (K, x)
  | .mk k n ks => by
    rw [Tp.ren, Tp.all, List.mem_append, Tp.mem_renL f K x ks]
    constructor
    · rintro (h | ⟨k', n', h1, h2⟩)
      · by_cases hk : (f k n).1 = K
        · rw [if_pos hk] at h
          refine ⟨k, n, by rw [Tp.all, if_pos rfl]; simp, ?_⟩
          rw [← hk, List.mem_singleton.1 h]
        · rw [if_neg hk] at h; cases h
      · exact ⟨k', n', by rw [Tp.all]; exact List.mem_append_right _ h1, h2⟩
    · rintro ⟨k', n', h1, h2⟩
      rw [Tp.all] at h1
      rcases List.mem_append.1 h1 with h1 | h1
      · by_cases hk : k = k'
        · rw [if_pos hk] at h1
          rw [List.mem_singleton.1 h1, ← hk] at h2
          exact .inl (by rw [h2]; simp)
        · rw [if_neg hk] at h1; cases h1
      · exact .inr ⟨k', n', h1, h2⟩
theorem Tp.mem_renL (f : Int → Int → Int × Int) (K x : Int) : ∀ l : List Tp, x ∈ Tp.allL K (Tp.renL f l) ↔ ∃ k n, n ∈ Tp.allL k l ∧ f k n = (K, x)
  | [] => by
    rw [Tp.renL, Tp.allL]
    constructor
    · intro h; cases h
    · rintro ⟨k, n, h, -⟩; rw [Tp.allL] at h; cases h
  | y :: r => by
    rw [Tp.renL, Tp.allL, List.mem_append, Tp.mem_ren f K x y, Tp.mem_renL f K x r]
    constructor
    · rintro (⟨k, n, h1, h2⟩ | ⟨k, n, h1, h2⟩)
      · exact ⟨k, n, by rw [Tp.allL]; exact List.mem_append_left _ h1, h2⟩
      · exact ⟨k, n, by rw [Tp.allL]; exact List.mem_append_right _ h1, h2⟩
    · rintro ⟨k, n, h1, h2⟩
      rw [Tp.allL] at h1
      rcases List.mem_append.1 h1 with h1 | h1
      · exact .inl ⟨k, n, h1, h2⟩
      · exact .inr ⟨k, n, h1, h2⟩
end
theorem mem_open {t : Tp} {keep : List Int} {k n : Int} : (k, n) ∈ Tp.open_ t keep ↔ k = 7 ∧ n ∈ Tp.all 7 t ∧ n ∉ keep ∨ k = 8 ∧ n ∈ Tp.all 8 t := by
  unfold Tp.open_ pls
  rw [List.mem_append, List.mem_map, List.mem_map]
  constructor
  · rintro (⟨x, hx, e⟩ | ⟨x, hx, e⟩)
    · have e1 := (Prod.mk.inj e).1
      have e2 := (Prod.mk.inj e).2
      subst e2
      obtain ⟨h1, h2⟩ := List.mem_filter.1 hx
      exact .inl ⟨e1.symm, Tp.mem_fnd.1 h1, by simpa using h2⟩
    · have e1 := (Prod.mk.inj e).1
      have e2 := (Prod.mk.inj e).2
      subst e2
      exact .inr ⟨e1.symm, Tp.mem_fnd.1 hx⟩
  · rintro (⟨rfl, h1, h2⟩ | ⟨rfl, h1⟩)
    · exact .inl ⟨n, List.mem_filter.2 ⟨Tp.mem_fnd.2 h1, by simpa using h2⟩, rfl⟩
    · exact .inr ⟨n, Tp.mem_fnd.2 h1, rfl⟩
/-- P1204. -/
theorem kept_mem {t : Tp} {keep : List Int} {x : Int} : x ∈ Tp.all 7 (Tp.ren (plf (Tp.open_ t keep)) t) ↔ x ∈ Tp.all 7 t ∧ x ∈ keep := by
  rw [Tp.mem_ren]
  constructor
  · rintro ⟨k, n, h1, h2⟩
    unfold plf at h2
    by_cases hm : (k, n) ∈ Tp.open_ t keep
    · rw [if_pos hm] at h2
      exact absurd (Prod.mk.inj h2).1 (by decide)
    · rw [if_neg hm] at h2
      have e1 := (Prod.mk.inj h2).1
      have e2 := (Prod.mk.inj h2).2
      subst e1
      subst e2
      refine ⟨h1, ?_⟩
      by_cases hk : n ∈ keep
      · exact hk
      · exact absurd (mem_open.2 (.inl ⟨rfl, h1, hk⟩)) hm
  · rintro ⟨h1, h2⟩
    refine ⟨7, x, h1, ?_⟩
    unfold plf
    rw [if_neg]
    intro h
    rcases mem_open.1 h with ⟨-, -, h3⟩ | ⟨h3, -⟩
    · exact h3 h2
    · exact absurd h3 (by decide)
theorem kept_gens {t : Tp} {keep : List Int} {x : Int} : x ∈ Tp.all 8 (Tp.ren (plf (Tp.open_ t keep)) t) ↔ 0 ≤ x ∧ x < (Tp.open_ t keep).length := by
  rw [Tp.mem_ren]
  constructor
  · rintro ⟨k, n, h1, h2⟩
    unfold plf at h2
    by_cases hm : (k, n) ∈ Tp.open_ t keep
    · rw [if_pos hm] at h2
      have e2 := (Prod.mk.inj h2).2
      have := List.idxOf_lt_length_iff.2 hm
      omega
    · rw [if_neg hm] at h2
      have e1 := (Prod.mk.inj h2).1
      subst e1
      exact absurd (mem_open.2 (.inr ⟨rfl, h1⟩)) hm
  · rintro ⟨h1, h2⟩
    obtain ⟨i, rfl⟩ : ∃ i : Nat, x = i := ⟨x.toNat, by omega⟩
    have hi : i < (Tp.open_ t keep).length := by omega
    obtain ⟨k, n, hkn⟩ : ∃ k n, (Tp.open_ t keep)[i] = (k, n) := ⟨_, _, rfl⟩
    have hmem : (k, n) ∈ Tp.open_ t keep := by rw [← hkn]; exact List.getElem_mem hi
    refine ⟨k, n, ?_, ?_⟩
    · rcases mem_open.1 hmem with ⟨rfl, h, -⟩ | ⟨rfl, h⟩
      · exact h
      · exact h
    · unfold plf
      rw [if_pos hmem, ← hkn, (open_nodup t keep).idxOf_getElem i hi]
theorem len_of_mem {l : List Int} {m : Nat} (hd : l.Nodup) (h : ∀ x, x ∈ l ↔ 0 ≤ x ∧ x < m) : l.length = m := by
  have hp : l.Perm ((List.range m).map fun (j : Nat) => (j : Int)) := by
    rw [List.perm_ext_iff_of_nodup hd]
    · intro x
      rw [h, List.mem_map]
      constructor
      · rintro ⟨h1, h2⟩
        exact ⟨x.toNat, List.mem_range.2 (by omega), by omega⟩
      · rintro ⟨j, hj, rfl⟩
        have := List.mem_range.1 hj
        omega
    · rw [List.Nodup, List.pairwise_map]
      exact List.nodup_range.imp fun hne e => hne (by omega)
  have := hp.length_eq
  rw [List.length_map, List.length_range] at this
  exact this
theorem kept_len (t : Tp) (keep : List Int) : (Tp.found 8 (Tp.ren (plf (Tp.open_ t keep)) t) []).length = (Tp.open_ t keep).length := len_of_mem (Tp.found_nodup 8 _) (fun x => by rw [Tp.mem_fnd, kept_gens])
theorem open_count (t : Tp) (keep : List Int) : (Tp.open_ t keep).length = ((Tp.found 7 t []).filter fun x => !decide (x ∈ keep)).length + (Tp.found 8 t []).length := by
  unfold Tp.open_ pls
  rw [List.length_append, List.length_map, List.length_map]
end Go.Proofs.Ythijckdhndbdoaa
