/- Two lists of declarations, one behind the other, in new memory. -/
import Derived.Test.YtgiegjghldhppabNdS
import Derived.Laws.AppendOwn
import Derived.Laws.AppendOwnNone
namespace Go.Proofs.Ytgiegjghldhppab
open Go.RowKit
set_option linter.unusedVariables false

/-- The values of a list of declarations, one behind the other. -/
def Flat (w : World) (n : Nat) (l : List Nd) (vals : List Value) : Prop := vals.length = l.length * 9 ∧ (∀ u ∈ vals, u.oneCell' = true) ∧ ∀ (i : Nat) x, l[i]? = some x → ∃ vs, vs.length = 9 ∧ (∀ (j : Nat) v, vs[j]? = some v → vals[i * 9 + j]? = some v) ∧ At w Any n 3 vs x
theorem Flat.nil (w : World) (n : Nat) : Flat w n [] [] := ⟨rfl, (fun u h => by cases h), fun i x h => by simp at h⟩
theorem Flat.append {w : World} {n : Nat} {a b : List Nd} {va vb : List Value} (ha : Flat w n a va) (hb : Flat w n b vb) : Flat w n (a ++ b) (va ++ vb) := by
  refine ⟨by rw [List.length_append, List.length_append, ha.1, hb.1]; omega, fun u hu => ?_, fun i x hx => ?_⟩
  · rcases List.mem_append.1 hu with h | h
    · exact ha.2.1 u h
    · exact hb.2.1 u h
  · by_cases hi : i < a.length
    · rw [List.getElem?_append_left hi] at hx
      obtain ⟨vs, h1, h2, h3⟩ := ha.2.2 i x hx
      refine ⟨vs, h1, fun j v hv => ?_, h3⟩
      have := h2 j v hv
      have hl := (List.getElem?_eq_some_iff.1 this).1
      rw [List.getElem?_append_left hl]; exact this
    · rw [List.getElem?_append_right (by omega)] at hx
      obtain ⟨vs, h1, h2, h3⟩ := hb.2.2 _ x hx
      refine ⟨vs, h1, fun j v hv => ?_, h3⟩
      have := h2 j v hv
      rw [List.getElem?_append_right (by rw [ha.1]; omega), ha.1, ← this]
      congr 1
      omega
theorem Flat.below {w w' : World} {n : Nat} {l : List Nd} {vals : List Value} (h : Flat w n l vals) (hb : Below w.heap.size w w') : Flat w' n l vals :=
  ⟨h.1, h.2.1, fun i x hx => by
    obtain ⟨vs, h1, h2, h3⟩ := h.2.2 i x hx
    exact ⟨vs, h1, h2, At.move (Keeps.of_below hb) (fun _ h => h) _ _ _ _ h3⟩⟩
theorem Flat.le {w : World} {n m : Nat} {l : List Nd} {vals : List Value} (h : Flat w n l vals) (hm : n ≤ m) : Flat w m l vals :=
  ⟨h.1, h.2.1, fun i x hx => by
    obtain ⟨vs, h1, h2, h3⟩ := h.2.2 i x hx
    exact ⟨vs, h1, h2, h3.le hm⟩⟩
theorem dec_one {w : World} {n : Nat} {vs : List Value} {x : Nd} (h : At w Any n 3 vs x) : ∀ u ∈ vs, u.oneCell' = true := by
  obtain ⟨i0, i1, s2, a3, n3, c3, d0, m0, e0, d1, m1, e1, d2, m2, e2, d3, m3, e3, d4, m4, e4, rfl⟩ := At.dec_form h
  intro u hu
  simp only [List.mem_cons, List.not_mem_nil, or_false] at hu
  rcases hu with rfl | rfl | rfl | rfl | rfl | rfl | rfl | rfl | rfl <;> simp [Value.oneCell']
theorem flat_of {w : World} {n b : Nat} : ∀ (l : List Nd) (o : Nat), (∀ (i : Nat) x, l[i]? = some x → ∃ vs, vs.length = Nd.size 3 ∧ Cells w b (o + i * Nd.size 3) vs ∧ At w Any n 3 vs x) → ∃ vals, Flat w n l vals ∧ ∀ (j : Nat) u, vals[j]? = some u → w.cell? ⟨b, o + j, none⟩ = some u
  | [], o, h => ⟨[], Flat.nil _ _, fun j u hu => by simp at hu⟩
  | x :: r, o, h => by
    obtain ⟨vs, h1, h2, h3⟩ := h 0 x rfl
    obtain ⟨vals, f1, f2⟩ := flat_of r (o + 9) (fun i y hy => by
      obtain ⟨ws, g1, g2, g3⟩ := h (i + 1) y (by simpa using hy)
      refine ⟨ws, g1, ?_, g3⟩
      rw [show o + 9 + i * Nd.size 3 = o + (i + 1) * Nd.size 3 by show o + 9 + i * 9 = o + (i + 1) * 9; omega]
      exact g2)
    replace h1 : vs.length = 9 := h1
    have h0 : Flat w n [x] vs := ⟨by rw [h1]; rfl, dec_one h3, fun i y hy => by
      cases i with
      | zero =>
        obtain rfl : x = y := by simpa using hy
        exact ⟨vs, h1, fun j v hv => by simpa using hv, h3⟩
      | succ i => simp at hy⟩
    refine ⟨vs ++ vals, Flat.append h0 f1, fun j u hu => ?_⟩
    by_cases hj : j < vs.length
    · rw [List.getElem?_append_left hj] at hu
      have := h2 j u hu
      simpa using this
    · rw [List.getElem?_append_right (by omega)] at hu
      have := f2 _ u hu
      rw [show o + 9 + (j - vs.length) = o + j by omega] at this
      exact this
theorem AtL.flat {w : World} {n : Nat} {v : Value} {l : List Nd} (h : AtL w Any n 3 v l) (hv : v = .slice none 0 0 ∨ ∃ ad m c, v = .slice (some ad) m c) :
    (v = .slice none 0 0 ∧ l = []) ∨ ∃ ad c vals, v = .slice (some ad) l.length c ∧ Flat w n l vals ∧ ∀ (j : Nat) u, vals[j]? = some u → w.cell? (ad.add j) = some u := by
  rcases h with ⟨b, o, c, rfl, -, -, -, hk⟩ | ⟨rfl, p, c, rfl⟩
  · obtain ⟨vals, f1, f2⟩ := flat_of l o hk
    refine .inr ⟨⟨b, o, none⟩, c, vals, rfl, f1, fun j u hu => ?_⟩
    have := f2 j u hu
    rw [show (⟨b, o, none⟩ : Addr).add j = ⟨b, o + j, none⟩ by unfold Addr.add; split <;> simp_all]
    exact this
  · rcases hv with h0 | ⟨ad, m, c2, h0⟩
    · exact .inl ⟨h0, rfl⟩
    · injection h0 with e1 e2 e3
      subst e1; subst e2; subst e3
      exact .inr ⟨ad, c, [], rfl, Flat.nil _ _, fun j u hu => by simp at hu⟩
theorem AtL.of_own {w : World} {B n m : Nat} {e : TypeId} {v : Value} {l : List Nd} {vals : List Value} (h : w.ownsRow B e 9 v m vals) (hf : Flat w n l vals) (hm : l.length = m) : AtL w Any n 3 v l := by
  subst hm
  obtain ⟨hl, h | ⟨g, cap, cur, rfl, -, hh, hc, hx, hsz, ht⟩⟩ := h
  · exact .inr ⟨List.eq_nil_of_length_eq_zero h.2, _, _, by rw [h.1]⟩
  · by_cases h0 : l = []
    · subst h0; exact .inr ⟨rfl, _, _, rfl⟩
    · refine .inl ⟨g, 0, cap, rfl, trivial, hc, Nat.le_trans hc hx, fun i x hi => ?_⟩
      obtain ⟨vs, h1, h2, h3⟩ := hf.2.2 i x hi
      refine ⟨vs, h1, fun j u hu => ?_, h3⟩
      have h4 := h2 j u hu
      rw [← ht, List.getElem?_take] at h4
      split at h4
      · show w.cell? ⟨g, 0 + i * 9 + j, none⟩ = some u
        rw [Nat.zero_add]
        simpa [World.cell?, hh] using h4
      · cases h4
theorem info_dec : (Try.prog.info? 38).map (fun i => (i.zero, i.size, i.bytes)) = some (some (.agg #[.int .i64 0, .int .i64 0, .string ⟨#[]⟩, .slice none 0 0, .slice none 0 0, .slice none 0 0, .slice none 0 0, .slice none 0 0, .slice none 0 0]), 9, 176) := by kernel_rfl
theorem nd_info_parts {P : Program} {t : TypeId} {z : Value} {s b : Nat} (h : (P.info? t).map (fun i => (i.zero, i.size, i.bytes)) = some (some z, s, b)) : ∃ i, P.info? t = some i ∧ i.zero = some z ∧ i.size = s ∧ i.bytes = b := by
  cases hi : P.info? t with
  | none => rw [hi] at h; cases h
  | some i =>
    rw [hi] at h
    simp only [Option.map_some, Option.some.injEq, Prod.mk.injEq] at h
    exact ⟨i, rfl, h.1, h.2.1, h.2.2⟩
end Go.Proofs.Ytgiegjghldhppab
