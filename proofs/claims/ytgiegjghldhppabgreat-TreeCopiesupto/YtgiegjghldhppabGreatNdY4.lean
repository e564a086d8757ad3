/- Numbers for numbers, texts for texts: what stays of nodes whose lists are marked. -/
import Derived.Test.YtgiegjghldhppabGreatNdY3
namespace Go.Proofs.YtgiegjghldhppabGreat
open Go.RowKit Go.Deep
set_option linter.unusedVariables false

/-- A number for a number, a text for a text. -/
def Like (v v' : Value) : Prop := v' = v ∨ (∃ i j : Int, v = .int .i64 i ∧ v' = .int .i64 j ∧ -9223372036854775808 ≤ j ∧ j ≤ 9223372036854775807) ∨ ∃ s t : ByteArray, v = .string s ∧ v' = .string t ∧ t.size ≤ maxLen
theorem Like.trans {a b c : Value} (h : Like a b) (k : Like b c) : Like a c := by
  rcases h with rfl | ⟨i, j, rfl, rfl, h⟩ | ⟨s, t, rfl, rfl, h⟩
  · exact k
  · rcases k with rfl | ⟨i', j', e, rfl, k⟩ | ⟨s, t, e, -⟩
    · exact .inr (.inl ⟨i, j, rfl, rfl, h⟩)
    · exact .inr (.inl ⟨i, j', rfl, rfl, k⟩)
    · cases e
  · rcases k with rfl | ⟨i', j', e, -⟩ | ⟨s', t', e, rfl, k⟩
    · exact .inr (.inr ⟨s, t, rfl, rfl, h⟩)
    · cases e
    · exact .inr (.inr ⟨s, t', rfl, rfl, k⟩)
theorem Like.slice {a : Option Addr} {n c : Nat} {v : Value} (h : Like (.slice a n c) v) : v = .slice a n c := by
  rcases h with rfl | ⟨i, j, e, -⟩ | ⟨s, t, e, -⟩
  · rfl
  · cases e
  · cases e
/-- In blocks of K numbers may have been written over numbers, texts over texts; all else is as it was. -/
structure Soft (K : Nat → Prop) (w w' : World) : Prop where
  os : w'.os = w.os
  tape : w'.tape = w.tape
  output : w'.output = w.output
  size : w'.heap.size = w.heap.size
  cell : ∀ b o v, w.cell? ⟨b, o, none⟩ = some v → ∃ v', w'.cell? ⟨b, o, none⟩ = some v' ∧ Like v v'
  out : ∀ b, ¬ K b → w'.heap[b]? = w.heap[b]?
  frozen : ∀ a, w'.frozen? a = w.frozen? a
theorem Soft.refl (K : Nat → Prop) (w : World) : Soft K w w := ⟨rfl, rfl, rfl, rfl, fun _ _ v h => ⟨v, h, .inl rfl⟩, fun _ _ => rfl, fun _ => rfl⟩
theorem Soft.trans {K : Nat → Prop} {a b c : World} (h : Soft K a b) (k : Soft K b c) : Soft K a c :=
  ⟨k.os.trans h.os, k.tape.trans h.tape, k.output.trans h.output, k.size.trans h.size, fun x o v hv => by
    obtain ⟨v1, h1, l1⟩ := h.cell x o v hv
    obtain ⟨v2, h2, l2⟩ := k.cell x o v1 h1
    exact ⟨v2, h2, l1.trans l2⟩, fun x hx => (k.out x hx).trans (h.out x hx), fun x => (k.frozen x).trans (h.frozen x)⟩
theorem Soft.set {K : Nat → Prop} {w W : World} (h : Soft K w W) {b o : Nat} {v u : Value} (hb : K b) (hc : W.cell? ⟨b, o, none⟩ = some v) (hl : Like v u) : Soft K w (W.setCell ⟨b, o, none⟩ u) :=
  h.trans ⟨rfl, rfl, rfl, by simp [World.setCell], fun x q y hy => by
    by_cases e : (⟨b, o, none⟩ : Addr) = ⟨x, q, none⟩
    · injection e with e1 e2 _
      subst e1; subst e2
      rw [hc] at hy
      injection hy with hy
      subst hy
      exact ⟨u, World.cell?_setCell_same _ _ _ hc, hl⟩
    · exact ⟨y, by rw [World.cell?_setCell_other _ _ _ _ e]; exact hy, .inl rfl⟩, fun x hx => Below.heap_setCell _ _ _ _ (fun e => hx (by rw [e]; exact hb)), fun x => World.frozen?_setCell _ _ _ _⟩
theorem Soft.slice {K : Nat → Prop} {w W : World} (h : Soft K w W) {b o : Nat} {a : Option Addr} {n c : Nat} (hc : w.cell? ⟨b, o, none⟩ = some (.slice a n c)) : W.cell? ⟨b, o, none⟩ = some (.slice a n c) := by
  obtain ⟨v', h1, h2⟩ := h.cell _ _ _ hc
  rw [h1, h2.slice]
theorem Soft.int {K : Nat → Prop} {w W : World} (h : Soft K w W) {b o : Nat} {i : Int} (hc : w.cell? ⟨b, o, none⟩ = some (.int .i64 i)) : ∃ j, W.cell? ⟨b, o, none⟩ = some (.int .i64 j) := by
  obtain ⟨v', h1, h2⟩ := h.cell _ _ _ hc
  rcases h2 with rfl | ⟨_, j, -, rfl, -⟩ | ⟨s, t, e, -⟩
  · exact ⟨i, h1⟩
  · exact ⟨j, h1⟩
  · cases e
theorem Soft.str {K : Nat → Prop} {w W : World} (h : Soft K w W) {b o : Nat} {s : ByteArray} (hc : w.cell? ⟨b, o, none⟩ = some (.string s)) : ∃ t, W.cell? ⟨b, o, none⟩ = some (.string t) := by
  obtain ⟨v', h1, h2⟩ := h.cell _ _ _ hc
  rcases h2 with rfl | ⟨_, j, e, -⟩ | ⟨_, t, -, rfl, -⟩
  · exact ⟨s, h1⟩
  · cases e
  · exact ⟨t, h1⟩
theorem Soft.below {K : Nat → Prop} {w W : World} {B : Nat} (h : Soft K w W) (hK : ∀ b, K b → B ≤ b) : Below B w W := ⟨h.os, h.tape, h.output, Nat.le_of_eq h.size.symm, fun k hk => h.out k (fun e => absurd hk (Nat.not_lt.2 (hK k e)))⟩
theorem Soft.keeps {K J : Nat → Prop} {w W : World} (h : Soft K w W) (hd : ∀ b, J b → ¬ K b) : Keeps J w W := fun b o v hb hv => (World.cell?_of_block (w := w) (a := ⟨b, o, none⟩) (h.out b (hd b hb))).trans hv

theorem Soft.tx {K : Nat → Prop} {w W : World} (h : Soft K w W) {v : Value} {xs : List ByteArray} (hv : Tx w K v xs) (hx : ∀ x, x ∈ xs → x.size ≤ maxLen) : ∃ xs', xs'.length = xs.length ∧ Tx W K v xs' ∧ ∀ x, x ∈ xs' → x.size ≤ maxLen := by
  rcases hv with ⟨b, o, c, rfl, hb, hl, hc⟩ | ⟨rfl, hv⟩
  · have h1 : ∀ i, i < xs.length → ∃ t : ByteArray, W.cell? ⟨b, o + i, none⟩ = some (.string t) ∧ t.size ≤ maxLen := by
      intro i hi
      have e := List.getElem?_eq_getElem hi
      obtain ⟨v', g1, g2⟩ := h.cell _ _ _ (hc i _ e)
      rcases g2 with rfl | ⟨_, _, q, -⟩ | ⟨_, t, -, rfl, q⟩
      · exact ⟨_, g1, hx _ (List.getElem_mem hi)⟩
      · cases q
      · exact ⟨t, g1, q⟩
    obtain ⟨f, hf⟩ := choose_lt (n := xs.length) (p := fun i (t : ByteArray) => W.cell? ⟨b, o + i, none⟩ = some (.string t) ∧ t.size ≤ maxLen) h1
    refine ⟨(List.range xs.length).map f, by simp, .inl ⟨b, o, c, by simp, hb, by simpa using hl, fun j x hj => ?_⟩, fun x hx => ?_⟩
    · rw [List.getElem?_map] at hj
      obtain ⟨i, hi, rfl⟩ := Option.map_eq_some_iff.1 hj
      obtain ⟨h2, h3⟩ := List.getElem?_eq_some_iff.1 hi
      rw [List.length_range] at h2
      rw [List.getElem_range] at h3
      subst h3
      exact (hf _ h2).1
    · obtain ⟨i, hi, rfl⟩ := List.mem_map.1 hx
      exact (hf _ (List.mem_range.1 hi)).2
  · exact ⟨[], rfl, .inr ⟨rfl, hv⟩, fun x hx => by cases hx⟩
/-- Values in the place of values. -/
def Likes (vs vs' : List Value) : Prop := vs'.length = vs.length ∧ ∀ (j : Nat) v, vs[j]? = some v → ∃ v', vs'[j]? = some v' ∧ Like v v'
theorem Likes.cons {v v' : Value} {vs vs' : List Value} (h : Likes (v :: vs) (v' :: vs')) : Like v v' ∧ Likes vs vs' := by
  refine ⟨?_, by simpa using h.1, fun j u hu => by simpa using h.2 (j + 1) u (by simpa using hu)⟩
  obtain ⟨x, h1, h2⟩ := h.2 0 v rfl
  obtain rfl : v' = x := by simpa using h1
  exact h2
theorem Soft.cells {K : Nat → Prop} {w W : World} (h : Soft K w W) {b : Nat} : ∀ (vs : List Value) (o : Nat), Cells w b o vs → ∃ vs', Likes vs vs' ∧ Cells W b o vs'
  | [], o, hc => ⟨[], ⟨rfl, fun j v hv => by simp at hv⟩, fun j v hv => by simp at hv⟩
  | v :: r, o, hc => by
    obtain ⟨v', h1, h2⟩ := h.cell b o v (by simpa using hc 0 v rfl)
    obtain ⟨r', h3, h4⟩ := Soft.cells h r (o + 1) (fun j u hu => by
      have := hc (j + 1) u (by simpa using hu)
      rw [show o + 1 + j = o + (j + 1) by omega]; exact this)
    refine ⟨v' :: r', ⟨by simp [h3.1], fun j u hu => ?_⟩, fun j u hu => ?_⟩
    · cases j with
      | zero =>
        obtain rfl : v = u := by simpa using hu
        exact ⟨v', rfl, h2⟩
      | succ j => simpa using h3.2 j u (by simpa using hu)
    · cases j with
      | zero =>
        obtain rfl : v' = u := by simpa using hu
        simpa using h1
      | succ j =>
        have := h4 j u (by simpa using hu)
        rw [show o + 1 + j = o + (j + 1) by omega] at this
        exact this
theorem All3.soft {α γ : Type} {R R' : α → Value → γ → Prop} (hi : ∀ a b c b', R a b c → Like b b' → ∃ c', R' a b' c') : ∀ {aa : List α} {bb : List Value} {cs : List γ}, All3 R aa bb cs → ∀ bb', Likes bb bb' → ∃ cs', All3 R' aa bb' cs'
  | [], [], [], _, bb', hl => by
    obtain rfl : bb' = [] := List.eq_nil_of_length_eq_zero (by simpa using hl.1)
    exact ⟨[], trivial⟩
  | a :: aa, b :: bb, c :: cs, h, bb', hl => by
    cases bb' with
    | nil => have := hl.1; simp at this
    | cons b' r' =>
      obtain ⟨l1, l2⟩ := hl.cons
      obtain ⟨c', h1⟩ := hi a b c b' h.1 l1
      obtain ⟨cs', h2⟩ := All3.soft hi h.2 r' l2
      exact ⟨c' :: cs', h1, h2⟩
theorem Likes.take {vs vs' : List Value} (h : Likes vs vs') (m : Nat) : Likes (vs.take m) (vs'.take m) := by
  refine ⟨by rw [List.length_take, List.length_take, h.1], fun j v hv => ?_⟩
  rw [List.getElem?_take] at hv
  by_cases hj : j < m
  · rw [if_pos hj] at hv
    obtain ⟨v', h1, h2⟩ := h.2 j v hv
    exact ⟨v', by rw [List.getElem?_take, if_pos hj]; exact h1, h2⟩
  · rw [if_neg hj] at hv; cases hv
theorem Likes.drop {vs vs' : List Value} (h : Likes vs vs') (m : Nat) : Likes (vs.drop m) (vs'.drop m) := by
  refine ⟨by rw [List.length_drop, List.length_drop, h.1], fun j v hv => ?_⟩
  rw [List.getElem?_drop] at hv
  obtain ⟨v', h1, h2⟩ := h.2 _ v hv
  exact ⟨v', by rw [List.getElem?_drop]; exact h1, h2⟩
theorem Soft.row {K : Nat → Prop} {w W : World} (h : Soft K w W) {k : Nat} {R R' : List Value → Nd → Prop} (hR : ∀ vs x vs', R vs x → Likes vs vs' → ∃ x', R' vs' x') {v : Value} {l : List Nd} (hv : Row w K k R v l) : ∃ l', l'.length = l.length ∧ Row W K k R' v l' := by
  rcases hv with ⟨b, o, c, rfl, hb, hl, hm, hc⟩ | ⟨rfl, hv⟩
  · have h1 : ∀ i, i < l.length → ∃ x' : Nd, ∃ vs', vs'.length = k ∧ Cells W b (o + i * k) vs' ∧ R' vs' x' := by
      intro i hi
      obtain ⟨vs, g1, g2, g3⟩ := hc i _ (List.getElem?_eq_getElem hi)
      obtain ⟨vs', g4, g5⟩ := h.cells vs _ g2
      obtain ⟨x', g6⟩ := hR vs _ vs' g3 g4
      exact ⟨x', vs', g4.1.trans g1, g5, g6⟩
    have inh : Inhabited Nd := ⟨.mk [] []⟩
    obtain ⟨f, hf⟩ := choose_lt (n := l.length) (p := fun i (x' : Nd) => ∃ vs', vs'.length = k ∧ Cells W b (o + i * k) vs' ∧ R' vs' x') h1
    refine ⟨(List.range l.length).map f, by simp, .inl ⟨b, o, c, by simp, hb, by simpa using hl, by simpa using hm, fun j x hj => ?_⟩⟩
    rw [List.getElem?_map] at hj
    obtain ⟨i, hi, rfl⟩ := Option.map_eq_some_iff.1 hj
    obtain ⟨h2, h3⟩ := List.getElem?_eq_some_iff.1 hi
    rw [List.length_range] at h2
    rw [List.getElem_range] at h3
    subst h3
    exact hf _ h2
  · exact ⟨[], rfl, .inr ⟨rfl, hv⟩⟩
theorem Soft.at {K : Nat → Prop} {w W : World} (h : Soft K w W) : ∀ (n s : Nat) (vs : List Value) (nd : Nd) (vs' : List Value), At w K n s vs nd → Likes vs vs' → ∃ nd', At W K n s vs' nd'
  | 0, _, _, _, _, hA, _ => hA.elim
  | n + 1, s, vs, nd, vs', hA, hl => by
    obtain ⟨h0, h1, h2⟩ := hA
    obtain ⟨sc, g1⟩ := All3.soft (R' := Fk.Ok W K) (fun a b c b' hr hb => by
      cases a with
      | int =>
        obtain ⟨i, rfl, a1, a2, rfl⟩ := hr
        rcases hb with rfl | ⟨_, j, -, rfl, q1, q2⟩ | ⟨_, _, e, -⟩
        · exact ⟨_, i, rfl, a1, a2, rfl⟩
        · exact ⟨_, j, rfl, q1, q2, rfl⟩
        · cases e
      | place =>
        obtain ⟨i, rfl, a1, a2, rfl⟩ := hr
        rcases hb with rfl | ⟨_, j, -, rfl, q1, q2⟩ | ⟨_, _, e, -⟩
        · exact ⟨_, i, rfl, a1, a2, rfl⟩
        · exact ⟨_, j, rfl, q1, q2, rfl⟩
        · cases e
      | str =>
        obtain ⟨i, rfl, a1, rfl⟩ := hr
        rcases hb with rfl | ⟨_, j, e, -⟩ | ⟨_, t, -, rfl, q⟩
        · exact ⟨_, i, rfl, a1, rfl⟩
        · cases e
        · exact ⟨_, t, rfl, q, rfl⟩
      | strs =>
        obtain ⟨xs, a1, a2, a3, rfl⟩ := hr
        obtain ⟨y, z, rfl⟩ := a1.form
        obtain rfl := hb.slice
        obtain ⟨xs', q1, q2, q3⟩ := h.tx a1 a2
        exact ⟨_, xs', q2, q3, by omega, rfl⟩) h1 _ (hl.take _)
    obtain ⟨ks, g2⟩ := All3.soft (R' := fun t v l => Row W K (Nd.size t) (At W K n t) v l) (fun a b c b' hr hb => by
      obtain ⟨y, z, rfl, -⟩ := AtL.form (s := a) hr
      obtain rfl := hb.slice
      obtain ⟨l', -, q⟩ := h.row (R' := At W K n a) (fun vs x vs' hx hy => Soft.at h n a vs x vs' hx hy) hr
      exact ⟨l', q⟩) h2 _ (hl.drop _)
    exact ⟨.mk sc ks, hl.1.trans h0, g1, g2⟩
theorem Soft.atL {K : Nat → Prop} {w W : World} (h : Soft K w W) {n s : Nat} {v : Value} {l : List Nd} (hv : AtL w K n s v l) : ∃ l', l'.length = l.length ∧ AtL W K n s v l' := h.row (fun vs x vs' hx hy => h.at n s vs x vs' hx hy) hv
/-- A list whose things begin with a number (a text): where they lie. -/
def HeadI (w : World) (K : Nat → Prop) (k : Nat) (ad : Option Addr) (m : Nat) : Prop := ∀ j, j < m → ∃ b o, ad = some ⟨b, o, none⟩ ∧ K b ∧ ∃ i, w.cell? ⟨b, o + j * k, none⟩ = some (.int .i64 i)
def HeadS (w : World) (K : Nat → Prop) (k : Nat) (ad : Option Addr) (m : Nat) : Prop := ∀ j, j < m → ∃ b o, ad = some ⟨b, o, none⟩ ∧ K b ∧ ∃ s, w.cell? ⟨b, o + j * k, none⟩ = some (.string s)
theorem Tx.heads {w : World} {K : Nat → Prop} {v : Value} {xs : List ByteArray} (h : Tx w K v xs) : ∃ ad c, v = .slice ad xs.length c ∧ HeadS w K 1 ad xs.length := by
  rcases h with ⟨b, o, c, rfl, hb, -, hc⟩ | ⟨rfl, p, c, rfl⟩
  · exact ⟨_, _, rfl, fun j hj => ⟨b, o, rfl, hb, _, by rw [Nat.mul_one]; exact hc j _ (List.getElem?_eq_getElem hj)⟩⟩
  · exact ⟨_, _, rfl, fun j hj => absurd hj (Nat.not_lt_zero _)⟩
theorem AtL.headsI {w : World} {K : Nat → Prop} {n s k : Nat} (hs : Nd.size s = k) (hh : ∀ m vs nd, At w K m s vs nd → ∃ i, vs[0]? = some (.int .i64 i)) {v : Value} {l : List Nd} (h : AtL w K n s v l) : ∃ ad c, v = .slice ad l.length c ∧ HeadI w K k ad l.length := by
  subst hs
  rcases h with ⟨b, o, c, rfl, hb, -, -, hc⟩ | ⟨rfl, p, c, rfl⟩
  · refine ⟨_, _, rfl, fun j hj => ?_⟩
    obtain ⟨vs, h1, h2, h3⟩ := hc j _ (List.getElem?_eq_getElem hj)
    obtain ⟨i, hi⟩ := hh _ _ _ h3
    exact ⟨b, o, rfl, hb, i, h2 0 _ hi⟩
  · exact ⟨_, _, rfl, fun j hj => absurd hj (Nat.not_lt_zero _)⟩
theorem AtL.headsS {w : World} {K : Nat → Prop} {n s k : Nat} (hs : Nd.size s = k) (hh : ∀ m vs nd, At w K m s vs nd → ∃ i, vs[0]? = some (.string i)) {v : Value} {l : List Nd} (h : AtL w K n s v l) : ∃ ad c, v = .slice ad l.length c ∧ HeadS w K k ad l.length := by
  subst hs
  rcases h with ⟨b, o, c, rfl, hb, -, -, hc⟩ | ⟨rfl, p, c, rfl⟩
  · refine ⟨_, _, rfl, fun j hj => ?_⟩
    obtain ⟨vs, h1, h2, h3⟩ := hc j _ (List.getElem?_eq_getElem hj)
    obtain ⟨i, hi⟩ := hh _ _ _ h3
    exact ⟨b, o, rfl, hb, i, h2 0 _ hi⟩
  · exact ⟨_, _, rfl, fun j hj => absurd hj (Nat.not_lt_zero _)⟩
theorem head_pat {w : World} {K : Nat → Prop} : ∀ m vs nd, At w K m 1 vs nd → ∃ i, vs[0]? = some (.int .i64 i)
  | 0, _, _, h => h.elim
  | m + 1, vs, nd, h => by obtain ⟨i0, s1, p2, x2, i3, v0, l0, rfl, -⟩ := At.pat h; exact ⟨i0, rfl⟩
theorem head_sig {w : World} {K : Nat → Prop} : ∀ m vs nd, At w K m 6 vs nd → ∃ i, vs[0]? = some (.int .i64 i)
  | 0, _, _, h => h.elim
  | m + 1, vs, nd, h => by obtain ⟨i0, p1, x1, v0, l0, v1, l1, v2, l2, rfl, -⟩ := At.sig h; exact ⟨i0, rfl⟩
theorem head_con {w : World} {K : Nat → Prop} : ∀ m vs nd, At w K m 4 vs nd → ∃ i, vs[0]? = some (.string i)
  | 0, _, _, h => h.elim
  | m + 1, vs, nd, h => by obtain ⟨s0, v0, l0, rfl, -⟩ := At.con h; exact ⟨s0, rfl⟩
theorem HeadI.at {w W : World} {K : Nat → Prop} {k m j : Nat} {ad : Option Addr} (h : HeadI w K k ad m) (hS : Soft K w W) (hz : ∀ b, K b → ∀ o, w.frozen? ⟨b, o, none⟩ = false) (hj : j < m) (u : Int) (hu : -9223372036854775808 ≤ u ∧ u ≤ 9223372036854775807) :
    ∃ b o, ad = some ⟨b, o, none⟩ ∧ (∃ i, W.cell? ⟨b, o + j * k, none⟩ = some (.int .i64 i)) ∧ W.frozen? ⟨b, o + j * k, none⟩ = false ∧ Soft K w (W.setCell ⟨b, o + j * k, none⟩ (.int .i64 u)) := by
  obtain ⟨b, o, rfl, hb, i, hi⟩ := h j hj
  obtain ⟨i', hi'⟩ := hS.int hi
  exact ⟨b, o, rfl, ⟨i', hi'⟩, (hS.frozen _).trans (hz b hb _), hS.set hb hi' (.inr (.inl ⟨i', u, rfl, rfl, hu⟩))⟩
theorem HeadS.at {w W : World} {K : Nat → Prop} {k m j : Nat} {ad : Option Addr} (h : HeadS w K k ad m) (hS : Soft K w W) (hz : ∀ b, K b → ∀ o, w.frozen? ⟨b, o, none⟩ = false) (hj : j < m) (u : ByteArray) (hu : u.size ≤ maxLen) :
    ∃ b o, ad = some ⟨b, o, none⟩ ∧ (∃ i, W.cell? ⟨b, o + j * k, none⟩ = some (.string i)) ∧ W.frozen? ⟨b, o + j * k, none⟩ = false ∧ Soft K w (W.setCell ⟨b, o + j * k, none⟩ (.string u)) := by
  obtain ⟨b, o, rfl, hb, i, hi⟩ := h j hj
  obtain ⟨i', hi'⟩ := hS.str hi
  exact ⟨b, o, rfl, ⟨i', hi'⟩, (hS.frozen _).trans (hz b hb _), hS.set hb hi' (.inr (.inr ⟨i', u, rfl, rfl, hu⟩))⟩
/-- What the contract of a function that marks lists says. -/
def SpoilOf (f : FuncId) (n s : Nat) : Prop := ∀ (w : World) (K : Nat → Prop) (v : Value) (l : List Nd), (∀ b, K b → ∀ o, w.frozen? ⟨b, o, none⟩ = false) → AtL w K n s v l →
  Calls Tryz.prog f #[v] w fun e w' => e = .returned (.tuple #[]) ∧ Soft K w w'
theorem SpoilOf.at {f : FuncId} {n s : Nat} (q : SpoilOf f n s) {w : World} {K : Nat → Prop} {v : Value} {l : List Nd} (hz : ∀ b, K b → ∀ o, w.frozen? ⟨b, o, none⟩ = false) (hv : AtL w K n s v l) (W : World) (hS : Soft K w W) :
    Calls Tryz.prog f #[v] W fun e w' => e = .returned (.tuple #[]) ∧ Soft K w w' := by
  obtain ⟨l', -, h⟩ := hS.atL hv
  exact (q W K v l' (fun b hb o => (hS.frozen _).trans (hz b hb o)) h).mono fun e w' ⟨h1, h2⟩ => ⟨h1, hS.trans h2⟩
end Go.Proofs.YtgiegjghldhppabGreat
