/- Plain mathematics of sets: a sorted list without its repetitions is ascending and has the same texts. -/
import Derived.Lib.SlicesCompact
import Derived.Sort.Statements
import Derived.Test.YtcccmbiocknknaaDoorOrder
namespace Go.Proofs.YtcccmbiocknknaaDoor
open Go.Lib
set_option linter.unusedVariables false

/-- ys is the set of xs. -/
structure IsSet (xs ys : List (List UInt8)) : Prop where
  asc : ys.Pairwise fun a b => compareBytes a b = -1
  mem : ∀ x, x ∈ ys ↔ x ∈ xs

theorem Nm.compact_step (d : Array (List UInt8)) (hs : ∀ i j, i < j → j < d.size → ¬ compareBytes d[j]! d[i]! < 0) : ∀ m, m ≤ d.size →
    (compactUpTo d m).Pairwise (fun a b => compareBytes a b = -1) ∧ ∀ x, x ∈ compactUpTo d m ↔ ∃ j, j < m ∧ d[j]! = x
  | 0, _ => by
    refine ⟨by simp [compactUpTo], fun x => ?_⟩
    simp [compactUpTo]
  | m + 1, hm => by
    obtain ⟨h1, h2⟩ := Nm.compact_step d hs m (by omega)
    rw [compactUpTo_succ]
    have hle : ∀ i j, i ≤ j → j < d.size → compareBytes d[i]! d[j]! ≤ 0 := fun i j hij hj => by
      rcases Nat.lt_or_eq_of_le hij with h | h
      · have := hs i j h hj
        have e := Nm.cmp_swap d[i]! d[j]!
        omega
      · rw [h, Nm.cmp_refl]; omega
    by_cases hk : keeps d m = true
    · rw [if_pos hk]
      refine ⟨List.pairwise_append.2 ⟨h1, by simp, fun a ha b hb => ?_⟩, fun x => ?_⟩
      · obtain rfl : b = d[m]! := by simpa using hb
        obtain ⟨j, hj, rfl⟩ := (h2 a).1 ha
        have hl := hle j m (by omega) (by omega)
        rcases Nm.cmp_three d[j]! d[m]! with e | e | e
        · exact e
        · exfalso
          have e1 := Nm.cmp_eq e
          have l1 := hle j (m - 1) (by omega) (by omega)
          have l2 := hle (m - 1) m (by omega) (by omega)
          rw [← e1] at l2
          have e2 := Nm.cmp_swap d[j]! d[m - 1]!
          have e3 : d[j]! = d[m - 1]! := Nm.cmp_eq (by omega)
          have hk' := hk
          unfold keeps at hk'
          rw [← e1, e3] at hk'
          simp at hk'
          omega
        · omega
      · rw [List.mem_append, h2]
        constructor
        · rintro (⟨j, hj, rfl⟩ | h)
          · exact ⟨j, by omega, rfl⟩
          · exact ⟨m, by omega, (List.mem_singleton.1 h).symm⟩
        · rintro ⟨j, hj, rfl⟩
          rcases Nat.lt_or_eq_of_le (Nat.lt_succ_iff.1 hj) with h | h
          · exact .inl ⟨j, h, rfl⟩
          · exact .inr (by rw [h]; simp)
    · rw [if_neg hk, List.append_nil]
      refine ⟨h1, fun x => ?_⟩
      rw [h2]
      constructor
      · rintro ⟨j, hj, rfl⟩; exact ⟨j, by omega, rfl⟩
      · rintro ⟨j, hj, rfl⟩
        rcases Nat.lt_or_eq_of_le (Nat.lt_succ_iff.1 hj) with h | h
        · exact ⟨j, h, rfl⟩
        · have hk' := hk
          unfold keeps at hk'
          simp at hk'
          subst h
          exact ⟨j - 1, by omega, hk'.2.symm⟩

theorem Nm.isSet_compact {xs zs : List (List UInt8)} (hp : zs.Perm xs) (hs : ∀ i j, i < j → j < zs.length → ¬ compareBytes zs.toArray[j]! zs.toArray[i]! < 0) : IsSet xs (compact zs) := by
  obtain ⟨h1, h2⟩ := Nm.compact_step zs.toArray (by simpa using hs) zs.length (by simp)
  refine ⟨h1, fun x => ?_⟩
  show x ∈ compactUpTo _ _ ↔ _
  rw [h2, ← hp.mem_iff]
  constructor
  · rintro ⟨j, hj, rfl⟩
    have : zs.toArray[j]! = zs[j] := by simp [hj]
    rw [this]; exact List.getElem_mem hj
  · intro h
    obtain ⟨j, hj, rfl⟩ := List.mem_iff_getElem.1 h
    exact ⟨j, hj, by simp [hj]⟩

/-- Two sets of one list are the same. -/
theorem IsSet.unique : ∀ {xs ys zs : List (List UInt8)}, IsSet xs ys → IsSet xs zs → ys = zs := by
  intro xs ys zs h k
  have hp : ys.Perm zs := (List.perm_ext_iff_of_nodup (h.asc.imp fun e he => by rw [he, Nm.cmp_refl] at e; omega) (k.asc.imp fun e he => by rw [he, Nm.cmp_refl] at e; omega)).2 fun x => (h.mem x).trans (k.mem x).symm
  exact hp.eq_of_pairwise (le := fun a b => compareBytes a b = -1) (fun a b _ _ e1 e2 => by have := Nm.cmp_swap a b; omega) h.asc k.asc
end Go.Proofs.YtcccmbiocknknaaDoor
