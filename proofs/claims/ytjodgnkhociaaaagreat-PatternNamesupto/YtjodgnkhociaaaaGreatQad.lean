/- Instances: plain mathematics. append([]T{}, v...): a list of its own. renewed: a type in new memory, with what is made of each node's kind and number. -/
import Derived.Laws.AppendOwn
import Derived.Laws.AppendOwnNone
import Derived.Laws.MakeOwn
import Derived.Test.YtjodgnkhociaaaaGreatQac
import Derived.Test.YtjodgnkhociaaaaGreatQab
namespace Go.Proofs.YtjodgnkhociaaaaGreat
open Go.RowKit
set_option linter.unusedVariables false
set_option linter.unusedSimpArgs false

mutual
/-- With a type for each TGen. -/
def Tp.inst (τ : Int → Tp) : Tp → Tp
  | .mk k n ks => if k = 8 then τ n else .mk k n (Tp.instL τ ks)
def Tp.instL (τ : Int → Tp) : List Tp → List Tp
  | [] => []
  | x :: r => Tp.inst τ x :: Tp.instL τ r
end
theorem Tp.instL_map (τ : Int → Tp) : ∀ l : List Tp, Tp.instL τ l = l.map (Tp.inst τ)
  | [] => by rw [Tp.instL]; rfl
  | x :: r => by rw [Tp.instL, Tp.instL_map τ r]; rfl
theorem Tp.inst_8 (τ : Int → Tp) {t : Tp} (h : t.k = 8) : Tp.inst τ t = τ t.n := by
  obtain ⟨k, n, ks⟩ := t
  rw [Tp.inst]; exact if_pos h
theorem Tp.inst_no (τ : Int → Tp) {t : Tp} (h : t.k ≠ 8) : Tp.inst τ t = .mk t.k t.n (t.ks.map (Tp.inst τ)) := by
  obtain ⟨k, n, ks⟩ := t
  rw [Tp.inst, Tp.instL_map]; exact if_neg h
theorem Tp.eta12 (t : Tp) : t = .mk t.k t.n t.ks := by cases t; rfl
mutual
/-- Two that agree on what stands there. -/
theorem Tp.inst_congr (τ σ : Int → Tp) : ∀ t : Tp, (∀ n ∈ Tp.all 8 t, τ n = σ n) → Tp.inst τ t = Tp.inst σ t
  | .mk k n ks, h => by
    rw [Tp.all] at h
    rw [Tp.inst, Tp.inst]
    by_cases hk : k = 8
    · rw [if_pos hk, if_pos hk]
      exact h n (by rw [if_pos hk]; simp)
    · rw [if_neg hk, if_neg hk, Tp.instL_congr τ σ ks (fun m hm => h m (List.mem_append_right _ hm))]
theorem Tp.instL_congr (τ σ : Int → Tp) : ∀ l : List Tp, (∀ n ∈ Tp.allL 8 l, τ n = σ n) → Tp.instL τ l = Tp.instL σ l
  | [], h => by rw [Tp.instL, Tp.instL]
  | x :: r, h => by
    rw [Tp.allL] at h
    rw [Tp.instL, Tp.instL, Tp.inst_congr τ σ x (fun m hm => h m (List.mem_append_left _ hm)), Tp.instL_congr τ σ r (fun m hm => h m (List.mem_append_right _ hm))]
end
mutual
/-- And the other way round: of right types (a TGen has no parts). -/
theorem Tp.inst_inj (τ σ : Int → Tp) : ∀ t : Tp, t.right = true → Tp.inst τ t = Tp.inst σ t → ∀ n ∈ Tp.all 8 t, τ n = σ n
  | .mk k n ks, hr, h, m, hm => by
    rw [Tp.all] at hm
    rw [Tp.inst, Tp.inst] at h
    rw [Tp.right, Bool.and_eq_true] at hr
    by_cases hk : k = 8
    · subst hk
      rw [if_pos rfl, if_pos rfl] at h
      have hz : ks = [] := by
        have := hr.1
        unfold Tp.own at this
        simp at this
        exact this.2
      subst hz
      rw [if_pos rfl, Tp.allL] at hm
      simp at hm
      rw [hm]; exact h
    · rw [if_neg hk, if_neg hk] at h
      injection h with _ _ h
      rw [if_neg hk, List.nil_append] at hm
      exact Tp.instL_inj τ σ ks hr.2 h m hm
theorem Tp.instL_inj (τ σ : Int → Tp) : ∀ l : List Tp, Tp.rightL l = true → Tp.instL τ l = Tp.instL σ l → ∀ n ∈ Tp.allL 8 l, τ n = σ n
  | [], hr, h, m, hm => by rw [Tp.allL] at hm; cases hm
  | x :: r, hr, h, m, hm => by
    rw [Tp.instL, Tp.instL] at h
    injection h with h1 h2
    rw [Tp.rightL, Bool.and_eq_true] at hr
    rw [Tp.allL] at hm
    rcases List.mem_append.1 hm with hm | hm
    · exact Tp.inst_inj τ σ x hr.1 h1 m hm
    · exact Tp.instL_inj τ σ r hr.2 h2 m hm
end
/-- A pair that waits: pointers and what they point at. -/
structure Pr where
  p : Value
  q : Value
  s : Tp
  t : Tp
/-- τ keeps what was found, and makes the same of every pair. -/
def Sol (τ : Int → Tp) (fd : List (Option Tp)) (ps : List Pr) : Prop := (∀ (i : Nat) t, fd[i]? = some (some t) → τ i = t) ∧ ∀ r ∈ ps, Tp.inst τ r.s = r.t
theorem Sol.snoc {τ : Int → Tp} {fd : List (Option Tp)} {ps : List Pr} {r : Pr} : Sol τ fd (ps ++ [r]) ↔ Sol τ fd ps ∧ Tp.inst τ r.s = r.t := by
  unfold Sol
  constructor
  · rintro ⟨h1, h2⟩
    exact ⟨⟨h1, fun x hx => h2 x (List.mem_append_left _ hx)⟩, h2 r (by simp)⟩
  · rintro ⟨⟨h1, h2⟩, h3⟩
    refine ⟨h1, fun x hx => ?_⟩
    rcases List.mem_append.1 hx with hx | hx
    · exact h2 x hx
    · rw [List.mem_singleton.1 hx]; exact h3
/-- The pairs of two lists of parts. -/
def kidsOf (pf : Nat → Value) (pt : Nat → Value) (l m : List Tp) (k : Nat) : List Pr := (List.range k).map fun i => ⟨pf i, pt i, l.getD i (.mk 0 0 []), m.getD i (.mk 0 0 [])⟩
theorem Sol.kids {τ : Int → Tp} {fd : List (Option Tp)} {ps : List Pr} {pf pt : Nat → Value} {s t : Tp} (hk : s.k ≠ 8) (h1 : s.k = t.k) (h2 : s.n = t.n) (hl : s.ks.length = t.ks.length) : Sol τ fd (ps ++ kidsOf pf pt s.ks t.ks s.ks.length) ↔ Sol τ fd ps ∧ Tp.inst τ s = t := by
  have he : Tp.inst τ s = t ↔ s.ks.map (Tp.inst τ) = t.ks := by
    rw [Tp.inst_no τ hk, Tp.eta12 t, h1, h2]
    constructor
    · intro h; injection h
    · intro h; rw [h]; rfl
  rw [he]
  unfold Sol
  constructor
  · rintro ⟨g1, g2⟩
    refine ⟨⟨g1, fun x hx => g2 x (List.mem_append_left _ hx)⟩, ?_⟩
    apply List.ext_getElem
    · rw [List.length_map]; exact hl
    · intro i hi hi'
      rw [List.length_map] at hi
      have := g2 _ (List.mem_append_right _ (List.mem_map.2 ⟨i, List.mem_range.2 hi, rfl⟩))
      simp only [List.getD_eq_getElem?_getD] at this
      rw [List.getElem?_eq_getElem hi, List.getElem?_eq_getElem hi'] at this
      rw [List.getElem_map]
      exact this
  · rintro ⟨⟨g1, g2⟩, g3⟩
    refine ⟨g1, fun x hx => ?_⟩
    rcases List.mem_append.1 hx with hx | hx
    · exact g2 x hx
    · obtain ⟨i, hi, rfl⟩ := List.mem_map.1 hx
      have hi := List.mem_range.1 hi
      simp only [List.getD_eq_getElem?_getD]
      rw [← g3, List.getElem?_map, List.getElem?_eq_getElem hi]
      rfl
theorem Sol.find {τ : Int → Tp} {fd : List (Option Tp)} {ps : List Pr} {i : Nat} {t : Tp} (hi : fd[i]? = some none) : Sol τ (fd.set i (some t)) ps ↔ Sol τ fd ps ∧ τ i = t := by
  unfold Sol
  have hlt : i < fd.length := (List.getElem?_eq_some_iff.1 hi).1
  constructor
  · rintro ⟨h1, h2⟩
    refine ⟨⟨fun j u hj => h1 j u ?_, h2⟩, h1 i t (List.getElem?_set_self hlt)⟩
    by_cases he : i = j
    · subst he; rw [hi] at hj; cases hj
    · rw [List.getElem?_set_ne he]; exact hj
  · rintro ⟨⟨h1, h2⟩, h3⟩
    refine ⟨fun j u hj => ?_, h2⟩
    by_cases he : i = j
    · subst he
      rw [List.getElem?_set_self hlt] at hj
      injection hj with hj
      injection hj with hj
      rw [h3, hj]
    · rw [List.getElem?_set_ne he] at hj
      exact h1 j u hj
/-- Where nothing waits, all that stands in a right type was found. -/
theorem Sol.whole {fd : List (Option Tp)} {a b : Tp} (ha : a.right = true) (h : ∀ τ, Sol τ fd [] ↔ Tp.inst τ a = b) : ∀ n : Nat, (n : Int) ∈ Tp.all 8 a → n < fd.length → ∃ t, fd[n]? = some (some t) := by
  intro n hn hlt
  cases hf : fd[n]? with
  | none => rw [List.getElem?_eq_none_iff] at hf; omega
  | some x =>
    cases x with
    | some t => exact ⟨t, rfl⟩
    | none =>
      exfalso
      have mk : ∀ z : Tp, Sol (fun i => if i = n then z else ((fd.getD i.toNat none).getD z)) fd [] := by
        intro z
        refine ⟨fun i t hi => ?_, fun r hr => by cases hr⟩
        by_cases he : (i : Int) = n
        · have : i = n := by omega
          subst this
          rw [hf] at hi; cases hi
        · simp only [if_neg he, Int.toNat_natCast, List.getD_eq_getElem?_getD, hi]
          rfl
      have h1 := (h _).1 (mk (.mk 0 0 []))
      have h2 := (h _).1 (mk (.mk 1 0 []))
      have h3 := Tp.inst_inj _ _ a ha (h1.trans h2.symm) n hn
      simp at h3
end Go.Proofs.YtjodgnkhociaaaaGreat

namespace Go.Proofs.YtjodgnkhociaaaaGreat
open Go.RowKit
set_option linter.unusedVariables false
set_option linter.unusedSimpArgs false

/-- What a slice that is appended holds. -/
def Src (w : World) (k : Nat) (v : Value) (m : Nat) (news : List Value) : Prop := (v = .slice none 0 0 ∧ m = 0 ∧ news = []) ∨ ∃ ad c, v = .slice (some ad) m c ∧ news.length = m * k ∧ (∀ (j : Nat) u, news[j]? = some u → w.cell? (ad.add j) = some u) ∧ ∀ u ∈ news, u.oneCell' = true
/-- nil, or a row. -/
def Sly (v : Value) : Prop := v = .slice none 0 0 ∨ ∃ ad m c, v = .slice (some ad) m c
theorem Src.below {w w' : World} {k : Nat} {v : Value} {m : Nat} {news : List Value} (h : Src w k v m news) (hb : Below w.heap.size w w') : Src w' k v m news := by
  rcases h with h | ⟨ad, c, h1, h2, h3, h4⟩
  · exact .inl h
  · exact .inr ⟨ad, c, h1, h2, fun j u hu => (hb.cell (World.block_lt_of_cell? w _ (h3 j u hu))).trans (h3 j u hu), h4⟩

theorem wp_copy {P : Program} {ops : Array Oper} {rest : List Oper} {o : Oper} {a : Act} {w : World} {Q : Exit → Act → World → Prop} (hgd : o.guard = none) (s x : Operand) (t : TypeId)
    (ho : o.op = .call { callee := .builtin .append, args := #[s, x], argTypes := #[t, t] })
    (g : Nat) (e : TypeId) (i : TypeInfo) (z : Value) (size bytes : Nat) (ht : P.underlying t = some (.slice e)) (hi : P.info? e = some i) (hz : i.zero = some z)
    (hsize : i.size = size) (hby : i.bytes = bytes) (hzs : z.cells.size = size) (hsz : 0 < size) (hs : a.eval s = .slice (some ⟨g, 0, none⟩) 0 0) (hown : w.ownsRow g e size (.slice (some ⟨g, 0, none⟩) 0 0) 0 [])
    (v : Value) (m : Nat) (news : List Value) (hx : a.eval x = v) (hsrc : Src w size v m news) (hm : m ≤ 1048576) (hb : bytes ≤ 64) (hg : g ≤ w.heap.size)
    (h : ∀ v' w', w'.ownsRow g e size v' m news → Below g w w' → wpList P ops Q rest (a.put o.dst v') w') : wpList P ops Q (o :: rest) a w := by
  rcases hsrc with ⟨rfl, rfl, rfl⟩ | ⟨ad, c, rfl, hl, hnews, h1⟩
  · exact wpList_append_own_none hgd s x t ho g e i size ht hi _ 0 [] hs hown hx (h _ _ hown (Below.refl _ _))
  · refine wpList_append_own w hgd s x t ho g e i z size bytes ht hi hz hsize hby hzs hsz _ 0 [] hs hown ad m c news hx hl hnews h1 (by unfold maxLen; omega) (by rw [Nat.zero_add]; exact Nat.le_trans (Nat.mul_le_mul hm hb) (by decide)) hg ?_
    intro v' w' h2 h3 _
    rw [Nat.zero_add, List.nil_append] at h2
    exact h v' w' h2 ((Below.refl g w).grown h3 hg (fun b hb => (hown.lt b hb).1))
theorem TAtL.src {w : World} {K : Nat → Prop} {n : Nat} {v : Value} {l : List Tp} (h : TAtL w K n v l) (hs : Sly v) : ∃ vals, Src w 3 v l.length vals ∧ ∀ (i : Nat) x, l[i]? = some x → ∃ vs, TAt w K n vs x ∧ Seg vals (i * 3) vs := by
  by_cases h0 : l = []
  · subst h0
    refine ⟨[], ?_, fun i x hx => by simp at hx⟩
    obtain ⟨a, c, rfl, -⟩ := h.form
    rcases hs with hs | ⟨ad, m, c', hs⟩
    · exact .inl ⟨hs, rfl, rfl⟩
    · injection hs with e1 e2 e3
      subst e1
      exact .inr ⟨ad, c, rfl, rfl, fun j u hu => by simp at hu, fun u hu => by cases hu⟩
  · have hE := h
    obtain ⟨b, o, c, rfl, -, -, -, -⟩ := h.resolve_right (fun h => h0 h.1)
    have hcell : ∀ j, j < l.length * 3 → ∃ u, w.cell? ⟨b, o + j, none⟩ = some u ∧ u.oneCell' = true := by
      intro j hj
      obtain ⟨x, hx⟩ : ∃ x, l[j / 3]? = some x := ⟨_, List.getElem?_eq_getElem (by omega)⟩
      obtain ⟨vx, tx, x0, x1, x2, -, -⟩ := hE.elem hx
      obtain ⟨ax, cx, ex⟩ := tx.form
      simp only [List.cons.injEq, and_true, true_and] at ex
      subst ex
      rcases (by omega : j % 3 = 0 ∨ j % 3 = 1 ∨ j % 3 = 2) with hr | hr | hr
      · exact ⟨_, by rw [show o + j = o + j / 3 * 3 by omega]; exact x0, rfl⟩
      · exact ⟨_, by rw [show o + j = o + j / 3 * 3 + 1 by omega]; exact x1, rfl⟩
      · exact ⟨_, by rw [show o + j = o + j / 3 * 3 + 2 by omega]; exact x2, rfl⟩
    have hvl : ((List.range (l.length * 3)).map fun j => (w.cell? ⟨b, o + j, none⟩).getD (.bool false)).length = l.length * 3 := by simp
    have hvals : ∀ (j : Nat) u, ((List.range (l.length * 3)).map fun j => (w.cell? ⟨b, o + j, none⟩).getD (.bool false))[j]? = some u → w.cell? ⟨b, o + j, none⟩ = some u ∧ u.oneCell' = true := by
      intro j u hu
      obtain ⟨hj, e⟩ := List.getElem?_eq_some_iff.1 hu
      rw [hvl] at hj
      obtain ⟨u', h1, h2⟩ := hcell j hj
      simp [h1] at e
      subst e
      exact ⟨h1, h2⟩
    have hget : ∀ (j : Nat) u, j < l.length * 3 → w.cell? ⟨b, o + j, none⟩ = some u → ((List.range (l.length * 3)).map fun j => (w.cell? ⟨b, o + j, none⟩).getD (.bool false))[j]? = some u := by
      intro j u hj hu
      simp [hj, hu]
    generalize ((List.range (l.length * 3)).map fun j => (w.cell? ⟨b, o + j, none⟩).getD (.bool false)) = vals at hvl hvals hget
    refine ⟨vals, .inr ⟨⟨b, o, none⟩, c, rfl, hvl, fun j u hj => by rw [addr_add]; exact (hvals j u hj).1, fun u hu => by obtain ⟨j, hj⟩ := List.getElem?_of_mem hu; exact (hvals j u hj).2⟩, fun i x hx => ?_⟩
    have hi := (List.getElem?_eq_some_iff.1 hx).1
    obtain ⟨vx, tx, x0, x1, x2, -, -⟩ := hE.elem hx
    obtain ⟨ax, cx, ex⟩ := tx.form
    simp only [List.cons.injEq, and_true, true_and] at ex
    subst ex
    refine ⟨_, tx, fun j u hu => ?_⟩
    match j, hu with
    | 0, hu => simp at hu; subst hu; exact hget _ _ (by omega) (by rw [← Nat.add_assoc]; exact x0)
    | 1, hu => simp at hu; subst hu; exact hget _ _ (by omega) (by rw [← Nat.add_assoc]; exact x1)
    | 2, hu => simp at hu; subst hu; exact hget _ _ (by omega) (by rw [← Nat.add_assoc]; exact x2)
    | j + 3, hu => simp at hu
theorem own_cell {w : World} {base : Nat} {e : TypeId} {k : Nat} {v : Value} {n : Nat} {xs : List Value} (h : w.ownsRow base e k v n xs) (h0 : n ≠ 0) : ∃ g cap, v = .slice (some ⟨g, 0, none⟩) n cap ∧ n ≤ cap ∧ n ≤ maxLen ∧ ∀ (j : Nat) u, xs[j]? = some u → w.cell? ⟨g, j, none⟩ = some u := by
  rcases h.2 with ⟨-, hz⟩ | ⟨g, cap, cur, rfl, hg, hh, hc, hm, hs, ht⟩
  · exact absurd hz h0
  · refine ⟨g, cap, rfl, hc, Nat.le_trans hc hm, fun j u hu => ?_⟩
    rw [← ht, List.getElem?_take] at hu
    split at hu
    · rw [cell_at hh]; simpa using hu
    · cases hu
theorem TAtL.of_own {w : World} {g n : Nat} {e : TypeId} {v : Value} {l : List Tp} {vals : List Value} (h : w.ownsRow g e 3 v l.length vals) (hf : ∀ (i : Nat) x, l[i]? = some x → ∃ vs, TAt w Any n vs x ∧ Seg vals (i * 3) vs) : TAtL w Any n v l := by
  by_cases h0 : l = []
  · subst h0
    obtain ⟨p, c, rfl⟩ := own_form h
    exact .inr ⟨rfl, _, _, rfl⟩
  · obtain ⟨b, cap, rfl, h1, h2, h3⟩ := own_cell h (fun h => h0 (List.eq_nil_of_length_eq_zero h))
    refine .inl ⟨b, 0, cap, rfl, trivial, h1, h2, fun i x hx => ?_⟩
    obtain ⟨vs, g1, g2⟩ := hf i x hx
    exact ⟨vs, fun j u hu => by rw [Nat.zero_add]; exact h3 _ _ (g2 j u hu), g1⟩
theorem Ls.src {w : World} {K : Nat → Prop} {v : Value} {l : List Int} (h : Ls w K v l) (hs : Sly v) : Src w 1 v l.length (l.map (.int .i64)) := by
  by_cases h0 : l = []
  · subst h0
    obtain ⟨a, c, rfl, -⟩ := h.form
    rcases hs with hs | ⟨ad, m, c', hs⟩
    · exact .inl ⟨hs, rfl, rfl⟩
    · injection hs with e1 e2 e3
      subst e1
      exact .inr ⟨ad, c, rfl, rfl, fun j u hu => by simp at hu, fun u hu => by cases hu⟩
  · obtain ⟨b, o, c, rfl, -, -, -, hl⟩ := h.resolve_right (fun h => h0 h.1)
    refine .inr ⟨⟨b, o, none⟩, c, rfl, by simp, fun j u hu => ?_, fun u hu => ?_⟩
    · rw [List.getElem?_map] at hu
      obtain ⟨x, hx, rfl⟩ := Option.map_eq_some_iff.1 hu
      rw [addr_add]; exact hl j x hx
    · obtain ⟨x, -, rfl⟩ := List.mem_map.1 hu
      rfl
theorem Ls.of_own {w : World} {g : Nat} {e : TypeId} {v : Value} {l : List Int} (h : w.ownsRow g e 1 v l.length (l.map (.int .i64))) : Ls w Any v l := by
  by_cases h0 : l = []
  · subst h0
    obtain ⟨p, c, rfl⟩ := own_form h
    exact .inr ⟨rfl, _, _, rfl⟩
  · obtain ⟨b, cap, rfl, h1, h2, h3⟩ := own_cell h (fun h => h0 (List.eq_nil_of_length_eq_zero h))
    refine .inl ⟨b, 0, cap, rfl, trivial, h1, h2, fun i x hx => ?_⟩
    rw [Nat.zero_add]
    exact h3 _ _ (by rw [List.getElem?_map, hx]; rfl)
theorem info_int : (Tryz.prog.info? 3).map (fun i => (i.zero, i.size, i.bytes)) = some (some (.int .i64 0), 1, 8) := by kernel_rfl
end Go.Proofs.YtjodgnkhociaaaaGreat

namespace Go.Proofs.YtjodgnkhociaaaaGreat
open Go.RowKit
set_option linter.unusedVariables false
set_option linter.unusedSimpArgs false

/-- What is made of a kind and a number. -/
def MakerOf (g : FuncId) (fs bs : Array Value) (f : Int → Int → Int × Int) (w : World) : Prop :=
  ∀ (wz : World) (k n : Int), Below w.heap.size w wz → R64 k → R64 n →
    Calls Tryz.prog g (fs ++ (#[.int .i64 k, .int .i64 n] ++ bs)) wz fun e w' => e = .returned (.tuple #[.int .i64 (f k n).1, .int .i64 (f k n).2]) ∧ R64 (f k n).1 ∧ R64 (f k n).2 ∧ Below wz.heap.size wz w'
/-- The list that is made: k elements stand in it. -/
structure Rnw (w : World) (f : Int → Int → Int × Int) (t : Tp) (v : Value) (g k N : Nat) (cur : List Value) (wr : World) : Prop where
  bl : Below w.heap.size w wr
  box : Arr wr w.heap.size 47 [.int .i64 t.k, .int .i64 t.n, v]
  res : Arr wr (w.heap.size + 1) 47 [.int .i64 0, .int .i64 0, .slice none 0 0]
  arr : Arr wr g 47 cur
  hg : w.heap.size + 2 ≤ g
  len : cur.length = t.ks.length * 3
  done : ∀ (i : Nat) x, i < k → t.ks[i]? = some x → ∃ a c, TAt wr (fun b => g < b) N [.int .i64 (Tp.ren f x).k, .int .i64 (Tp.ren f x).n, .slice a (Tp.ren f x).ks.length c] (Tp.ren f x) ∧ Seg cur (i * 3) [.int .i64 (Tp.ren f x).k, .int .i64 (Tp.ren f x).n, .slice a (Tp.ren f x).ks.length c]
theorem Rnw.stays {w : World} {f : Int → Int → Int × Int} {t : Tp} {v : Value} {g k N : Nat} {cur : List Value} {wr wz : World} (h : Rnw w f t v g k N cur wr) (hb : Below wr.heap.size wr wz) : Rnw w f t v g k N cur wz :=
  ⟨bl_tr h.bl hb, h.box.stays hb, h.res.stays hb, h.arr.stays hb, h.hg, h.len, fun i x hi hx => by obtain ⟨a, c, h1, h2⟩ := h.done i x hi hx; exact ⟨a, c, h1.below hb, h2⟩⟩
theorem Rnw.store {w : World} {f : Int → Int → Int × Int} {t : Tp} {v : Value} {g k N : Nat} {cur : List Value} {wr : World} (h : Rnw w f t v g k N cur wr) (hk : k < t.ks.length) {x y : Tp} (hx : t.ks[k]? = some x) (hy : Tp.ren f x = y) {N' : Nat} {a : Option Addr} {c : Nat} (hT : TAt wr (fun b => g < b) N' [.int .i64 y.k, .int .i64 y.n, .slice a y.ks.length c] y) :
    Rnw w f t v g (k + 1) (max N N') (((cur.set (k * 3) (.int .i64 y.k)).set (k * 3 + 1) (.int .i64 y.n)).set (k * 3 + 2) (.slice a y.ks.length c)) (((wr.setCell ⟨g, k * 3, none⟩ (.int .i64 y.k)).setCell ⟨g, k * 3 + 1, none⟩ (.int .i64 y.n)).setCell ⟨g, k * 3 + 2, none⟩ (.slice a y.ks.length c)) := by
  have hg := h.hg
  have hK : ∀ (W : World) j u, Keeps (fun b => g < b) W (W.setCell ⟨g, j, none⟩ u) := fun W j u => Keeps.set (K := fun b => g < b) (p := ⟨g, j, none⟩) (fun h => Nat.lt_irrefl g h) u
  have hKK : Keeps (fun b => g < b) wr (((wr.setCell ⟨g, k * 3, none⟩ (.int .i64 y.k)).setCell ⟨g, k * 3 + 1, none⟩ (.int .i64 y.n)).setCell ⟨g, k * 3 + 2, none⟩ (.slice a y.ks.length c)) := ((hK _ _ _).trans (hK _ _ _)).trans (hK _ _ _)
  have hlen : k * 3 + 2 < cur.length := by rw [h.len]; omega
  refine ⟨bl_set _ _ (bl_set _ _ (bl_set _ _ h.bl (by show _ ≤ g; omega)) (by show _ ≤ g; omega)) (by show _ ≤ g; omega), ((h.box.other (by show _ ≠ g; omega) _).other (by show _ ≠ g; omega) _).other (by show _ ≠ g; omega) _, ((h.res.other (by show _ ≠ g; omega) _).other (by show _ ≠ g; omega) _).other (by show _ ≠ g; omega) _, ((h.arr.set _ _).set _ _).set _ _, hg, by simp only [List.length_set]; exact h.len, fun i z hi hz => ?_⟩
  by_cases he : i = k
  · subst he
    rw [hx] at hz
    injection hz with hz
    subst hz
    subst hy
    exact ⟨a, c, (hT.move hKK (fun _ h => h)).le (Nat.le_max_right _ _), Seg.set3 hlen⟩
  · obtain ⟨a1, c1, h1, h2⟩ := h.done i z (by omega) hz
    exact ⟨a1, c1, (h1.move hKK (fun _ h => h)).le (Nat.le_max_left _ _), h2.other3 rfl (by omega)⟩
theorem Rnw.fin {w : World} {f : Int → Int → Int × Int} {t : Tp} {v : Value} {g N : Nat} {cur : List Value} {wr W : World} (h : Rnw w f t v g t.ks.length N cur wr) (hk : Keeps (fun b => w.heap.size + 2 ≤ b) wr W) (h1 : R64 (f t.k t.n).1) (h2 : R64 (f t.k t.n).2) (hl : t.ks.length ≤ 1048576) : TAt W (fun b => w.heap.size ≤ b) (N + 1) [.int .i64 (f t.k t.n).1, .int .i64 (f t.k t.n).2, .slice (some ⟨g, 0, none⟩) t.ks.length t.ks.length] (Tp.ren f t) := by
  have hg := h.hg
  rw [Tp.ren_eq]
  refine ⟨_, rfl, h1, h2, (show TRow _ _ _ _ (t.ks.map (Tp.ren f)) from .inl ⟨g, 0, t.ks.length, by rw [List.length_map], by omega, by rw [List.length_map]; exact Nat.le_refl _, by rw [List.length_map]; unfold maxLen; omega, fun i y hy => ?_⟩)⟩
  rw [List.getElem?_map] at hy
  obtain ⟨x, hx, rfl⟩ := Option.map_eq_some_iff.1 hy
  obtain ⟨a, c, h1, h2⟩ := h.done i x (List.getElem?_eq_some_iff.1 hx).1 hx
  refine ⟨_, ?_, h1.move (fun b o v hb hv => hk b o v (show _ ≤ _ by omega) hv) (fun b hb => by omega)⟩
  rw [Nat.zero_add]
  exact fun j v hv => hk g _ _ hg (Seg.cells h.arr h2 j v hv)
theorem info_type3 : (Tryz.prog.info? 47).map (fun i => (i.zero, i.size, i.bytes)) = some (some (.agg #[.int .i64 0, .int .i64 0, .slice none 0 0]), 3, 40) := by kernel_rfl
theorem made_cells (n : Nat) : ∃ M : Array Value, M.size = n * 3 ∧ ∀ (w : World), n ≤ 1048576 → (Instr.makeSlice 45 (.int .i64 (n : Int)) (.int .i64 (n : Int))).run Tryz.prog w = .ok (.slice (some ⟨w.heap.size, 0, none⟩) n n) (w.alloc (.cells M 47)) := by
  obtain ⟨i, hi, he⟩ := Option.map_eq_some_iff.1 info_type3
  injection he with hz he
  injection he with hs hb
  refine ⟨madeCells (Value.agg #[.int .i64 0, .int .i64 0, .slice none 0 0]).cells (n * 3), size_madeCells _ _, fun w hn => ?_⟩
  have h := run_make (P := Tryz.prog) w 45 47 i _ Tryz.underlying45 hi hz .i64 .i64 n n (by omega) (Int.le_refl _) (by rw [hb]; omega) (by omega)
  simp only [Int.toNat_natCast, hs] at h
  exact h

end Go.Proofs.YtjodgnkhociaaaaGreat
