/- Two numbers replaced one after the other are as replaced at once: mathematics. -/
import Derived.Test.YthijckdhndbdoaaTpP
import Derived.Test.YthijckdhndbdoaaTpB
import Derived.Test.YthijckdhndbdoaaTpU
namespace Go.Proofs.Ythijckdhndbdoaa
open Go.RowKit
set_option linter.unusedVariables false

theorem Tp.mem_ins {l : List Int} {n x : Int} : x ∈ Tp.ins l n ↔ x ∈ l ∨ x = n := by
  unfold Tp.ins
  split
  · rename_i h
    constructor
    · exact .inl
    · rintro (h1 | rfl)
      · exact h1
      · exact h
  · simp
mutual
theorem Tp.found_mono (kind : Int) (x : Int) : ∀ (t : Tp) (l : List Int), x ∈ l → x ∈ Tp.found kind t l
  | .mk k n ks, l, h => by
    rw [Tp.found_mk]
    refine Tp.foundL_mono kind x ks _ ?_
    split
    · exact Tp.mem_ins.2 (.inl h)
    · exact h
theorem Tp.foundL_mono (kind : Int) (x : Int) : ∀ (ts : List Tp) (l : List Int), x ∈ l → x ∈ Tp.foundL kind ts l
  | [], l, h => by rw [Tp.foundL_nil]; exact h
  | t :: r, l, h => by rw [Tp.foundL_cons]; exact Tp.foundL_mono kind x r _ (Tp.found_mono kind x t l h)
end
theorem Tp.by_one (kind n : Int) (u : Tp) (k x : Int) : Tp.by kind [n] [u] k x = if k = kind then (if n = x then some u else none) else none := by
  unfold Tp.by Tp.idx Tp.idx
  by_cases h : k = kind
  · rw [if_pos h, if_pos h]
    by_cases h2 : n = x
    · simp [h2]
    · simp [h2]
  · rw [if_neg h, if_neg h]
theorem Tp.by_two (kind n m : Int) (u v : Tp) (k x : Int) : Tp.by kind [n, m] [u, v] k x = if k = kind then (if n = x then some u else if m = x then some v else none) else none := by
  unfold Tp.by Tp.idx Tp.idx Tp.idx
  by_cases h : k = kind
  · rw [if_pos h, if_pos h]
    by_cases h2 : n = x
    · simp [h2]
    · by_cases h3 : m = x
      · simp [h2, h3]
      · simp [h2, h3]
  · rw [if_neg h, if_neg h]
mutual
/-- What does not stand there is not replaced. -/
theorem Tp.put_not (kind m : Int) (v : Tp) : ∀ (t : Tp) (l : List Int), m ∉ Tp.found kind t l → Tp.put kind [m] [v] t = t
  | .mk k n ks, l, h => by
    rw [Tp.found_mk] at h
    have hb : Tp.by kind [m] [v] k n = none := by
      rw [Tp.by_one]
      by_cases hk : k = kind
      · rw [if_pos hk]
        by_cases hn : m = n
        · exact absurd (Tp.foundL_mono kind m ks _ (by rw [if_pos hk]; exact Tp.mem_ins.2 (.inr hn))) h
        · rw [if_neg hn]
      · rw [if_neg hk]
    rw [Tp.put, hb]
    show Tp.mk k n (Tp.putL kind [m] [v] ks) = _
    rw [Tp.putL_not kind m v ks _ h]
theorem Tp.putL_not (kind m : Int) (v : Tp) : ∀ (ts : List Tp) (l : List Int), m ∉ Tp.foundL kind ts l → Tp.putL kind [m] [v] ts = ts
  | [], l, h => by rw [Tp.putL]
  | t :: r, l, h => by
    rw [Tp.foundL_cons] at h
    rw [Tp.putL, Tp.putL_not kind m v r _ h, Tp.put_not kind m v t l (fun h1 => h (Tp.foundL_mono kind m r _ h1))]
end
mutual
theorem Tp.put_twice (kind n m : Int) (u v : Tp) (hne : n ≠ m) (hu : Tp.put kind [m] [v] u = u) : ∀ t : Tp, Tp.put kind [m] [v] (Tp.put kind [n] [u] t) = Tp.put kind [n, m] [u, v] t
  | .mk k x ks => by
    rw [Tp.put.eq_def kind [n, m] [u, v] (.mk k x ks), Tp.put.eq_def kind [n] [u] (.mk k x ks)]
    simp only [Tp.by_one, Tp.by_two]
    by_cases hk : k = kind
    · simp only [if_pos hk]
      by_cases h1 : n = x
      · simp only [if_pos h1]; exact hu
      · simp only [if_neg h1]
        rw [Tp.put, Tp.by_one, if_pos hk]
        by_cases h2 : m = x
        · simp only [if_pos h2]
        · simp only [if_neg h2]
          rw [Tp.putL_twice kind n m u v hne hu ks]
    · simp only [if_neg hk]
      rw [Tp.put, Tp.by_one, if_neg hk]
      show Tp.mk _ _ _ = _
      rw [Tp.putL_twice kind n m u v hne hu ks]
theorem Tp.putL_twice (kind n m : Int) (u v : Tp) (hne : n ≠ m) (hu : Tp.put kind [m] [v] u = u) : ∀ ts : List Tp, Tp.putL kind [m] [v] (Tp.putL kind [n] [u] ts) = Tp.putL kind [n, m] [u, v] ts
  | [] => by rw [Tp.putL, Tp.putL, Tp.putL]
  | t :: r => by rw [Tp.putL.eq_def kind [n] [u] (t :: r), Tp.putL.eq_def kind [n, m] [u, v] (t :: r)]; simp only; rw [Tp.putL, Tp.put_twice kind n m u v hne hu t, Tp.putL_twice kind n m u v hne hu r]
end
end Go.Proofs.Ythijckdhndbdoaa
