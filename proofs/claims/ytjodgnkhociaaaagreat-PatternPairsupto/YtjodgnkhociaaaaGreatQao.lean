/- What Set comes to: a new list, ascending, of the same texts. -/
import Derived.Test.YtjodgnkhociaaaaGreatQan
namespace Go.Proofs.YtjodgnkhociaaaaGreat.Tre
open Go.RowKit Go.Shelf Go.Sort
set_option linter.unusedVariables false

theorem below_grow' {B : Nat} {a w : World} (h : Below B a w) (hB : B ≤ w.heap.size) (os : Array Obj) : Below B a (grow w os) :=
  h.trans ⟨rfl, rfl, rfl, by simp [grow], fun k hk => by
    show (w.heap ++ os)[k]? = _
    rw [Array.getElem?_append_left (by omega)]⟩

theorem Nm.compact_length (zs : List (List UInt8)) : (Lib.compact zs).length ≤ zs.length := by
  unfold Lib.compact Lib.compactUpTo
  rw [List.length_map]
  exact Nat.le_trans (List.length_filter_le _ _) (by simp)

theorem sort_row (g cap n B : Nat) (d : Array (List UInt8)) (w : World) (hn : d.size = n) (hH : Holds encStr w g 0 d) (hg : g < w.heap.size) (hB : B ≤ g) (hsz : n < 4611686018427387904) :
    Calls Tryz.prog 64 #[.slice (some ⟨g, 0, none⟩) n cap, .func (.func 65) #[] #[]] w fun e w' =>
      e = .returned (.tuple #[]) ∧ ∃ zs : List (List UInt8), (zs.length = n ∧ zs.Perm d.toList ∧ (∀ i j, i < j → j < zs.length → ¬ Lib.compareBytes zs.toArray[j]! zs.toArray[i]! < 0)) ∧ Holds encStr w' g 0 zs.toArray ∧ g < w'.heap.size ∧ Below B w w' := by
  subst hn
  refine (sort_any g 0 cap d w hH hg hsz).mono ?_
  rintro e w' ⟨rfl, d', m, os, hp, hs, rfl⟩
  have hsz' : d'.size = d.size := hp.1
  refine ⟨rfl, d'.toList, ⟨by simpa using hsz', ?_, ?_⟩, holds_sortWorld encStr w g 0 m d d' os hg hH hsz', lt_sortWorld encStr w g 0 m d' os hg, ?_⟩
  · have := hp.2.2
    rwa [← hsz', Array.extract_size, hsz', Array.extract_size] at this
  · intro i j hij hj
    have h := hs i j (Nat.zero_le _) hij (by simp at hj; omega)
    rw [lt_eq, decide_eq_false_iff_not] at h
    exact h
  · unfold sortWorld
    exact below_grow' (Lib.below_putRow (Below.refl B w) hB) (by simp; show B ≤ w.heap.size; omega) os

theorem compact_row (g cap n B : Nat) (zs : List (List UInt8)) (w : World) (hn : zs.length = n) (hc : n ≤ cap) (hsz : n < 4611686018427387904) (hH : Holds encStr w g 0 zs.toArray) (hB : B ≤ g) :
    Calls Tryz.prog 66 #[.slice (some ⟨g, 0, none⟩) n cap] w fun e w' =>
      e = .returned (.slice (some ⟨g, 0, none⟩) (Lib.compact zs).length cap) ∧ (∀ j x, (Lib.compact zs)[j]? = some x → w'.cell? ⟨g, 0 + j, none⟩ = some (encStr x) ∧ w'.frozen? ⟨g, 0 + j, none⟩ = false) ∧ Below B w w' := by
  subst hn
  refine (Tryz.slices_Compact_string g 0 cap zs w hH (by omega) hc).mono ?_
  rintro e w' ⟨rfl, q, rfl⟩
  have hl := Nm.compact_length zs
  refine ⟨rfl, fun j x hx => ?_, Lib.below_putRow (Below.refl B w) hB⟩
  have hj := (List.getElem?_eq_some_iff.1 hx).1
  have hh := holds_putRow encStr (Sort.ahead w q) g 0 zs.toArray (Lib.compact zs ++ List.replicate (zs.length - (Lib.compact zs).length) []).toArray (fun j hj => hH j hj) (by simp; omega) j (by simp; omega)
  have ex : (Lib.compact zs ++ List.replicate (zs.length - (Lib.compact zs).length) []).toArray[j]! = x := by
    rw [getElem!_pos _ j (by simp; omega)]
    simp only [List.getElem_toArray]
    rw [List.getElem_append_left hj]
    exact (List.getElem?_eq_some_iff.1 hx).2
  rw [ex] at hh
  exact hh

/-- How Set's answer lies: no text, or a row of its own whose cells may be written. -/
def SetRow (w W : World) (v : Value) (ys : List ByteArray) : Prop :=
  (ys = [] ∧ ∃ p c, v = .slice p 0 c) ∨ ∃ g c, v = .slice (some ⟨g, 0, none⟩) ys.length c ∧ w.heap.size ≤ g ∧ ∀ (j : Nat) x, ys[j]? = some x → W.cell? ⟨g, 0 + j, none⟩ = some (.string x) ∧ W.frozen? ⟨g, 0 + j, none⟩ = false
theorem SetRow.st {w W : World} {v : Value} {ys : List ByteArray} (h : SetRow w W v ys) : Strs W v ys := by
  rcases h with ⟨rfl, p, c, rfl⟩ | ⟨g, c, rfl, _, h⟩
  · exact Strs.nil _ _ _
  · exact .inl ⟨g, 0, c, rfl, fun j x hx => (h j x hx).1⟩

theorem strs_shape {W : World} {v : Value} (h : Strs W v []) : ∃ p c, v = .slice p 0 c := by
  rcases h with ⟨b, o, c, rfl, _⟩ | ⟨_, p, c, rfl⟩
  · exact ⟨_, _, rfl⟩
  · exact ⟨_, _, rfl⟩

def Nm.datas (xs : List ByteArray) : List (List UInt8) := xs.map (·.data.toList)

theorem own_holds {W : World} {base n : Nat} {v : Value} {xs : List ByteArray} (h : W.ownsRow base 9 1 v n (xs.map Value.string)) (h0 : 0 < n) :
    ∃ g cap, v = .slice (some ⟨g, 0, none⟩) n cap ∧ base ≤ g ∧ g < W.heap.size ∧ n ≤ cap ∧ Holds encStr W g 0 (Nm.datas xs).toArray := by
  have hst := Strs.own h
  obtain ⟨hl, h2⟩ := h
  have hn : xs.length = n := by simpa using hl
  rcases h2 with ⟨rfl, rfl⟩ | ⟨g, cap, cur, rfl, hg, hh, hc, hm, hsz, ht⟩
  · omega
  · refine ⟨g, cap, rfl, hg, (Array.getElem?_eq_some_iff.1 hh).1, hc, fun j hj => ?_⟩
    have hj' : j < xs.length := by simpa [Nm.datas] using hj
    have e : (Nm.datas xs).toArray[j]! = xs[j].data.toList := by
      rw [getElem!_pos _ j hj]
      simp [Nm.datas]
    refine ⟨?_, by simp [World.frozen?, hh]⟩
    rw [e]
    rcases hst with ⟨b, o, c, hv, hcell⟩ | ⟨rfl, _⟩
    · obtain ⟨rfl, rfl⟩ : g = b ∧ 0 = o := by
        have := (Value.slice.inj hv).1
        cases this
        exact ⟨rfl, rfl⟩
      exact hcell j xs[j] (List.getElem?_eq_getElem hj')
    · cases hj'

theorem Nm.datas_back (zs : List (List UInt8)) : Nm.datas (zs.map fun l => (⟨l.toArray⟩ : ByteArray)) = zs := by
  unfold Nm.datas
  rw [List.map_map]
  conv => rhs; rw [← List.map_id zs]
  rfl

set_option maxHeartbeats 1000000 in
theorem set_any (v : Value) (xs : List ByteArray) (w : World) (hv : Strs w v xs) (hbig : xs.length * 16 ≤ 140737488355328) :
    Calls Tryz.prog 44 #[v] w fun e w' => ∃ v' ys, e = .returned v' ∧ SetRow w w' v' ys ∧ IsSet (Nm.datas xs) (Nm.datas ys) ∧ ys.length ≤ xs.length ∧ Below w.heap.size w w' := by
  have hnil : IsSet (Nm.datas []) (Nm.datas []) := ⟨List.Pairwise.nil, fun x => Iff.rfl⟩
  by_cases h0 : xs.length = 0
  · obtain rfl : xs = [] := List.eq_nil_of_length_eq_zero h0
    obtain ⟨p, c, rfl⟩ : ∃ p c, v = .slice p 0 c := by
      rcases hv with ⟨b, o, c, rfl, _⟩ | ⟨_, p, c, rfl⟩
      · exact ⟨_, _, rfl⟩
      · exact ⟨_, _, rfl⟩
    clear hv
    cases p with
    | none =>
      have hC := Tryz.slices_Clone_string_nil 0 c w
      go_enter Tryz.func44, Tryz.ntmps44
      go_wp2_with (first
        | (go_at_call 63; refine hC.mono ?_; rintro e w' ⟨rfl, rfl⟩)
        | (go_at_call 64; refine (sort_none _ _ _ _).mono ?_; rintro e w' ⟨rfl, rfl⟩)
        | (go_at_call 66; refine (Tryz.slices_Compact_string_empty _ _ _).mono ?_; rintro e w' ⟨rfl, rfl⟩))
      go_ret
      exact ⟨_, [], rfl, .inl ⟨rfl, _, _, rfl⟩, hnil, Nat.le_refl _, Below.refl _ _⟩
    | some a =>
      have hC := Tryz.slices_Clone_string_zero a c w
      go_enter Tryz.func44, Tryz.ntmps44
      go_wp2_with (first
        | (go_at_call 63; refine hC.mono ?_; rintro e w1 ⟨v1, rfl, ho, _, hb1⟩; obtain ⟨p1, c1, rfl⟩ := strs_shape (Strs.own (xs := []) ho))
        | (go_at_call 64; refine (sort_none _ _ _ _).mono ?_; rintro e w2 ⟨rfl, hw2⟩; rw [hw2]; clear hw2 w2)
        | (go_at_call 66; refine (Tryz.slices_Compact_string_empty _ _ _).mono ?_; rintro e w3 ⟨rfl, hw3⟩; rw [hw3]; clear hw3 w3))
      go_ret
      exact ⟨_, [], rfl, .inl ⟨rfl, _, _, rfl⟩, hnil, Nat.le_refl _, hb1⟩
  · rcases hv with ⟨b, o, c, rfl, hc⟩ | ⟨rfl, _⟩
    · have hC := Tryz.slices_Clone_string b o xs.length c xs w (Nat.le_refl _) hbig (fun j hj => by
        have := hc j xs[j] (List.getElem?_eq_getElem hj)
        simpa [List.getD, List.getElem?_eq_getElem hj] using this)
      rw [List.take_length] at hC
      clear hc
      go_enter Tryz.func44, Tryz.ntmps44
      go_wp2_with (first
        | (go_at_call 63; refine hC.mono ?_; rintro e w1 ⟨v1, rfl, ho, _, hb1⟩; obtain ⟨g, cap, rfl, hg, hgl, hcap, hH⟩ := own_holds ho (by omega))
        | (go_at_call 64; refine (sort_row g cap xs.length w.heap.size (Nm.datas xs).toArray w1 (by simp [Nm.datas]) hH hgl hg (by omega)).mono ?_; rintro e w2 ⟨rfl, zs, hz, hH2, hgl2, hb2⟩)
        | (go_at_call 66; refine (compact_row g cap xs.length w.heap.size zs w2 hz.1 hcap (by omega) hH2 hg).mono ?_; rintro e w3 ⟨rfl, hH3, hb3⟩))
      go_ret
      have hset : IsSet (Nm.datas xs) (Lib.compact zs) := Nm.isSet_compact (by simpa using hz.2.1) (fun i j a b => Int.not_lt.2 (hz.2.2 i j a b))
      have hle := Nm.compact_length zs
      refine ⟨_, (Lib.compact zs).map fun l => (⟨l.toArray⟩ : ByteArray), rfl, .inr ⟨g, cap, by rw [List.length_map]; rfl, hg, fun j x hx => ?_⟩, by rw [Nm.datas_back]; exact hset, by rw [List.length_map, ← hz.1]; exact hle, (hb1.trans hb2).trans hb3⟩
      rw [List.getElem?_map] at hx
      obtain ⟨l, hl, rfl⟩ := Option.map_eq_some_iff.1 hx
      exact hH3 j l hl
    · exact absurd rfl h0
end Go.Proofs.YtjodgnkhociaaaaGreat.Tre
