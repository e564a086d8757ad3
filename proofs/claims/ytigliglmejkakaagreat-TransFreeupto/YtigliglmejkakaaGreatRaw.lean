/- A row of types that is written anew; Clone. An element of a list of types; the document's binds. The document's own: level, with. The document's own: Texts, same, sameAll, SameType. The law's own: stamp, list, same. The law's list. -/
import Derived.Deep.RegionHeld
import Derived.Test.YtigliglmejkakaaGreatRav
import Derived.Test.YtigliglmejkakaaGreatRaq
import Derived.Test.YtigliglmejkakaaGreatRau
import Derived.Test.YtigliglmejkakaaGreatRam
namespace Go.Proofs.YtigliglmejkakaaGreat.Tgt
open Go.RowKit
set_option linter.unusedVariables false
set_option linter.unusedSimpArgs false

/-- What Clone gives of n things of k cells each, whose cells hold these values. -/
def Cloned (w : World) (e : TypeId) (k n : Nat) (vals : List Value) (x : Ending) (w' : World) : Prop := ∃ v', x = .returned v' ∧ w'.ownsRow w.heap.size e k v' n vals ∧ Below w.heap.size w w'

theorem info_tt : (Tryz.prog.info? 28).map (fun i => (i.zero, i.size, i.bytes)) = some (some (.agg #[.int .i64 0, .int .i64 0, .slice none 0 0, .slice none 0 0]), 4, 64) := by kernel_rfl
set_option maxHeartbeats 2000000 in
set_option maxRecDepth 100000 in
theorem clone_raw (w : World) (a : Addr) (n c : Nat) (vals : List Value) (hl : vals.length = n * 4) (hc : ∀ (j : Nat) u, vals[j]? = some u → w.cell? (a.add j) = some u) (h1 : ∀ u ∈ vals, u.oneCell' = true) (hn : n ≤ 1099511627776) :
    Calls Tryz.prog 75 #[.slice (some a) n c] w (Cloned w 28 4 n vals) := by
  obtain ⟨i0, hi, hz0, hz1, hz2⟩ := info_parts0 info_tt
  have row0 := row_new w 28 4
  have q22 : ∀ (w : World) (a : Option Addr) (n c n' c' : Nat), (binOp .eql 26 (.slice a n c) (.slice none n' c')).run Tryz.prog w = .ok (.bool a.isNone) w := fun w a n c n' c' => Lib.run_eql_slice_nil w _ _ a n c n' c' Tryz.underlying26
  have A : Hid (∀ (j : Nat) u, vals[j]? = some u → w.cell? (a.add j) = some u) := hc
  clear hc
  go_enter Tryz.func75, Tryz.ntmps75
  go_wp2_with (at_builtin; refine wpList_append_own _ rfl _ _ 26 rfl w.heap.size 28 i0 (.agg #[.int .i64 0, .int .i64 0, .slice none 0 0, .slice none 0 0]) 4 64 Tryz.underlying26 hi hz0 hz1 hz2 rfl (by decide) _ _ _ rfl row0 a n c vals rfl hl ?qc2 h1 ?qc4 ?qc5 ?qc6 ?_)
  case qc2 =>
    intro j u hj
    exact Lib.cell?_alloc_some _ (A.out j u hj)
  case qc4 => unfold maxLen; omega
  case qc5 => omega
  case qc6 => simp
  intro v' w1 hown hgrow hnil
  go_wp2
  go_ret
  exact ⟨v', rfl, by simpa using hown, ((Below.refl _ w).alloc (Nat.le_refl _) _).grown hgrow (by simp) (by intro k hk; simp [Value.ownBlock] at hk; omega)⟩
abbrev TY : TypeId := 28
/-- Blocks that hold what was put together from n0 on, or what came in. -/
def Kr (M : Nat → Prop) (n0 : Nat) (own : Nat → Prop) (w : World) : Nat → Prop := fun b => (M b ∨ n0 ≤ b) ∧ Free own w b
theorem Kr.ev {M : Nat → Prop} {n0 : Nat} {own own' : Nat → Prop} {w w' : World} (hev : Ev own w own' w') : ∀ b, Kr M n0 own w b → Kr M n0 own' w' b := fun b hb => ⟨hb.1, by have := hb.2.1; have := hev.size; omega, fun hq => (hev.mine b hq).elim hb.2.2 (fun hl => by have := hb.2.1; omega)⟩
theorem Kr.keeps {M : Nat → Prop} {n0 : Nat} {own own' : Nat → Prop} {w w' : World} (hev : Ev own w own' w') : Keeps (Kr M n0 own w) w w' := fun b o v hb hv => hev.keeps b o v hb.2 hv
theorem Kr.le {M : Nat → Prop} {n0 n1 : Nat} {own : Nat → Prop} {w : World} (h : n1 ≤ n0) : ∀ b, Kr M n0 own w b → Kr M n1 own w b := fun b hb => ⟨hb.1.imp id (fun q => by omega), hb.2⟩
/-- A row of types in block g, beside what is owned. -/
structure Rw (M : Nat → Prop) (n0 : Nat) (w : World) (own : Nat → Prop) (g cap k : Nat) (L : List Tt) : Prop where
  ex : ∃ cur : List Value, Arr w g TY cur ∧ L.length * 4 ≤ cur.length ∧ ∀ (i : Nat) x, L[i]? = some x → ∃ vs, Seg cur (i * 4) vs ∧ TAt w (fun b => Kr M n0 own w b ∧ b ≠ g) k vs x
  no : ¬ own g
  ge : n0 ≤ g
  le : L.length ≤ cap
  mx : L.length ≤ maxLen
theorem Rw.lt {M : Nat → Prop} {n0 : Nat} {w : World} {own : Nat → Prop} {g cap k : Nat} {L : List Tt} (h : Rw M n0 w own g cap k L) : g < w.heap.size := by obtain ⟨cur, h1, -⟩ := h.ex; exact h1.lt
theorem Rw.ev {M : Nat → Prop} {n0 : Nat} {w w' : World} {own own' : Nat → Prop} {g cap k : Nat} {L : List Tt} (h : Rw M n0 w own g cap k L) (hev : Ev own w own' w') : Rw M n0 w' own' g cap k L := by
  obtain ⟨⟨cur, h1, h2, h3⟩, no, ge, le, mx⟩ := h
  refine ⟨⟨cur, ⟨(hev.block g h1.lt no).trans h1.b⟩, h2, fun i x hx => ?_⟩, fun hq => (hev.mine g hq).elim no (fun hl => by have := h1.lt; omega), ge, le, mx⟩
  obtain ⟨vs, s1, s2⟩ := h3 i x hx
  exact ⟨vs, s1, s2.move (fun b o v hb hv => hev.keeps b o v hb.1.2 hv) (fun b hb => ⟨Kr.ev hev b hb.1, hb.2⟩)⟩
theorem Rw.up {M : Nat → Prop} {n0 : Nat} {w : World} {own : Nat → Prop} {g cap k k' : Nat} {L : List Tt} (h : Rw M n0 w own g cap k L) (hk : k ≤ k') : Rw M n0 w own g cap k' L := by
  obtain ⟨⟨cur, h1, h2, h3⟩, no, ge, le, mx⟩ := h
  exact ⟨⟨cur, h1, h2, fun i x hx => by obtain ⟨vs, s1, s2⟩ := h3 i x hx; exact ⟨vs, s1, s2.le hk⟩⟩, no, ge, le, mx⟩
theorem Rw.stays {M : Nat → Prop} {n0 : Nat} {w w' : World} {own : Nat → Prop} {g cap k : Nat} {L : List Tt} (h : Rw M n0 w own g cap k L) (hb : Below w.heap.size w w') : Rw M n0 w' own g cap k L := h.ev (Ev.of_below hb)
/-- The row as a slice. -/
theorem Rw.slice {M : Nat → Prop} {n0 : Nat} {w : World} {own : Nat → Prop} {g cap k : Nat} {L : List Tt} (h : Rw M n0 w own g cap k L) : TAtL w (Kr M n0 own w) k (.slice (some ⟨g, 0, none⟩) L.length cap) L := by
  obtain ⟨⟨cur, h1, h2, h3⟩, no, ge, le, mx⟩ := h
  refine .inl ⟨g, 0, cap, rfl, ⟨.inr ge, h1.lt, no⟩, le, mx, fun i x hx => ?_⟩
  obtain ⟨vs, s1, s2⟩ := h3 i x hx
  refine ⟨vs, fun j v hv => ?_, s2.move (Keeps.refl _ _) (fun b hb => hb.1)⟩
  rw [h1.cell]
  have := s1 j v hv
  rw [Nat.zero_add]
  exact this
theorem Seg.set_ne {cur : List Value} {o : Nat} {vs : List Value} (h : Seg cur o vs) {p : Nat} (hp : p < o ∨ o + vs.length ≤ p) (v : Value) : Seg (cur.set p v) o vs := fun j u hu => by
  have := (List.getElem?_eq_some_iff.1 hu).1
  rw [List.getElem?_set_ne (by omega)]
  exact h j u hu
theorem TAt.len {w : World} {K : Nat → Prop} {k : Nat} {vs : List Value} {t : Tt} (h : TAt w K k vs t) : vs.length = 4 := by obtain ⟨a', c', a, c, rfl⟩ := h.form; rfl
/-- One of them is written anew. -/
theorem Rw.put {M : Nat → Prop} {n0 : Nat} {w : World} {own : Nat → Prop} {g cap k : Nat} {L : List Tt} (h : Rw M n0 w own g cap k L) {i : Nat} (hi : i < L.length) {v0 v1 v2 v3 : Value} {x : Tt} (hx : TAt w (fun b => Kr M n0 own w b ∧ b ≠ g) k [v0, v1, v2, v3] x) :
    Rw M n0 ((((w.setCell ⟨g, i * 4, none⟩ v0).setCell ⟨g, i * 4 + 1, none⟩ v1).setCell ⟨g, i * 4 + 2, none⟩ v2).setCell ⟨g, i * 4 + 3, none⟩ v3) own g cap k (L.set i x) := by
  obtain ⟨⟨cur, h1, h2, h3⟩, no, ge, le, mx⟩ := h
  have hkp : ∀ {u : World} {p : Addr} {v : Value}, p.block = g → Keeps (fun b => Kr M n0 own w b ∧ b ≠ g) u (u.setCell p v) := fun {u p v} hp => Keeps.set (fun hb => hb.2 hp) v
  have K4 : Keeps (fun b => Kr M n0 own w b ∧ b ≠ g) w ((((w.setCell ⟨g, i * 4, none⟩ v0).setCell ⟨g, i * 4 + 1, none⟩ v1).setCell ⟨g, i * 4 + 2, none⟩ v2).setCell ⟨g, i * 4 + 3, none⟩ v3) := (((hkp rfl).trans (hkp rfl)).trans (hkp rfl)).trans (hkp rfl)
  have hK : ∀ b, (Kr M n0 own w b ∧ b ≠ g) → (Kr M n0 own ((((w.setCell ⟨g, i * 4, none⟩ v0).setCell ⟨g, i * 4 + 1, none⟩ v1).setCell ⟨g, i * 4 + 2, none⟩ v2).setCell ⟨g, i * 4 + 3, none⟩ v3) b ∧ b ≠ g) := fun b hb => ⟨⟨hb.1.1, by simp only [World.setCell, Array.size_modify]; exact hb.1.2.1, hb.1.2.2⟩, hb.2⟩
  refine ⟨⟨(((cur.set (i * 4) v0).set (i * 4 + 1) v1).set (i * 4 + 2) v2).set (i * 4 + 3) v3, (((h1.set _ _).set _ _).set _ _).set _ _, by simp only [List.length_set]; exact h2, fun j y hy => ?_⟩, no, ge, by rw [List.length_set]; exact le, by rw [List.length_set]; exact mx⟩
  by_cases hj : i = j
  · subst hj
    rw [List.getElem?_set_self hi] at hy
    injection hy with hy
    subst hy
    refine ⟨[v0, v1, v2, v3], fun m v hm => ?_, hx.move K4 hK⟩
    have hl : i * 4 + 3 < cur.length := by omega
    match m, hm with
    | 0, hm => injection hm with hm; subst hm; rw [List.getElem?_set_ne (by omega), List.getElem?_set_ne (by omega), List.getElem?_set_ne (by omega), Nat.add_zero, List.getElem?_set_self (by omega)]
    | 1, hm => injection hm with hm; subst hm; rw [List.getElem?_set_ne (by omega), List.getElem?_set_ne (by omega), List.getElem?_set_self (by simp; omega)]
    | 2, hm => injection hm with hm; subst hm; rw [List.getElem?_set_ne (by omega), List.getElem?_set_self (by simp; omega)]
    | 3, hm => injection hm with hm; subst hm; rw [List.getElem?_set_self (by simp; omega)]
    | m + 4, hm => simp at hm
  · rw [List.getElem?_set_ne hj] at hy
    obtain ⟨vs, s1, s2⟩ := h3 j y hy
    have := s2.len
    exact ⟨vs, (((s1.set_ne (by omega) _).set_ne (by omega) _).set_ne (by omega) _).set_ne (by omega) _, s2.move K4 hK⟩
/-- Clone, of a list that is not empty. -/
theorem clone_row (M : Nat → Prop) (n0 : Nat) (w : World) (own : Nat → Prop) (ho : ∀ b, own b → b < w.heap.size) (hM : ∀ b, M b → ¬ own b) (k : Nat) (a : Option Addr) (c : Nat) (L : List Tt) (h : TAtL w M k (.slice a L.length c) L) (h0 : L ≠ []) (hn : L.length ≤ 1099511627776) (hn0 : n0 ≤ w.heap.size) : Calls Tryz.prog 75 #[.slice a L.length c] w fun r w' => ∃ g cap, r = .returned (.slice (some ⟨g, 0, none⟩) L.length cap) ∧ w.heap.size ≤ g ∧ Rw M n0 w' own g cap k L ∧ Below w.heap.size w w' := by
  have hE := h
  obtain ⟨b, o, c', hv, -, -, -, -⟩ := h.resolve_right (fun h => h0 h.1)
  injection hv with e1 e2 e3
  subst e1
  have hcell : ∀ j, j < L.length * 4 → ∃ u, w.cell? ⟨b, o + j, none⟩ = some u ∧ u.oneCell' = true := by
    intro j hj
    obtain ⟨x, hx⟩ : ∃ x, L[j / 4]? = some x := ⟨_, List.getElem?_eq_getElem (by omega)⟩
    obtain ⟨b', o', ea, hP⟩ := hE.elem hx
    injection ea with ea
    injection ea with ea eb _
    subst ea eb
    obtain ⟨m, rfl⟩ := hP.pos
    obtain ⟨_, _, _, _, x0, x1, x2, x3, -⟩ := hP.cells
    rcases (by omega : j % 4 = 0 ∨ j % 4 = 1 ∨ j % 4 = 2 ∨ j % 4 = 3) with hr | hr | hr | hr
    · exact ⟨_, by rw [show o + j = o + j / 4 * 4 by omega]; exact x0, rfl⟩
    · exact ⟨_, by rw [show o + j = o + j / 4 * 4 + 1 by omega]; exact x1, rfl⟩
    · exact ⟨_, by rw [show o + j = o + j / 4 * 4 + 2 by omega]; exact x2, rfl⟩
    · exact ⟨_, by rw [show o + j = o + j / 4 * 4 + 3 by omega]; exact x3, rfl⟩
  have hvl : ((List.range (L.length * 4)).map fun j => (w.cell? ⟨b, o + j, none⟩).getD (.bool false)).length = L.length * 4 := by simp
  have hvals : ∀ (j : Nat) u, ((List.range (L.length * 4)).map fun j => (w.cell? ⟨b, o + j, none⟩).getD (.bool false))[j]? = some u → w.cell? ⟨b, o + j, none⟩ = some u ∧ u.oneCell' = true := by
    intro j u hu
    obtain ⟨hj, e⟩ := List.getElem?_eq_some_iff.1 hu
    rw [hvl] at hj
    obtain ⟨u', g1, g2⟩ := hcell j hj
    rw [List.getElem_map, List.getElem_range, g1] at e
    have e : u' = u := e
    subst e
    exact ⟨g1, g2⟩
  generalize ((List.range (L.length * 4)).map fun j => (w.cell? ⟨b, o + j, none⟩).getD (.bool false)) = vals at hvl hvals
  refine (clone_raw w ⟨b, o, none⟩ L.length c vals hvl (fun j u hu => by rw [addr_add']; exact (hvals j u hu).1) (fun u hu => by obtain ⟨j, hj⟩ := List.getElem?_of_mem hu; exact (hvals j u hj).2) hn).mono ?_
  rintro r w' ⟨v', rfl, hown, hb⟩
  have hl0 : L.length ≠ 0 := fun e => h0 (List.eq_nil_of_length_eq_zero e)
  rcases hown.2 with ⟨-, e⟩ | ⟨g, cap, cur, rfl, hg, hcur, hcap, hcm, hcs, htk⟩
  · exact absurd e hl0
  · have hlen4 : cur.toList.length = cap * 4 := by rw [← hcs]; rfl
    refine ⟨g, cap, rfl, hg, ⟨⟨cur.toList, ⟨by simpa using hcur⟩, (by rw [hlen4]; omega), fun i x hx => ?_⟩, fun hq => by have := ho g hq; omega, by omega, hcap, Nat.le_trans hcap hcm⟩, hb⟩
    obtain ⟨b', o', ea, hP⟩ := hE.elem hx
    injection ea with ea
    injection ea with ea eb _
    subst ea eb
    obtain ⟨hbM, vs, g1, g2⟩ := hP
    have hil := (List.getElem?_eq_some_iff.1 hx).1
    refine ⟨vs, fun j v hv => ?_, (TAt.old g2).move (Keeps.of_below hb) (fun b hb2 => ⟨⟨.inl hb2.1, by have := hb2.2; have := hb.size; omega, fun hq => hM b hb2.1 hq⟩, by have := hb2.2; omega⟩)⟩
    have hj4 := (List.getElem?_eq_some_iff.1 hv).1
    have := g2.len
    have hcj := g1 j v hv
    rw [show o + i * 4 + j = o + (i * 4 + j) by omega] at hcj
    have hvj : vals[i * 4 + j]? = some v := by
      obtain ⟨u, hu⟩ : ∃ u, vals[i * 4 + j]? = some u := ⟨_, List.getElem?_eq_getElem (by omega)⟩
      have := (hvals _ _ hu).1
      rw [hcj] at this
      injection this with this
      rw [hu, this]
    rw [← htk, List.getElem?_take] at hvj
    split at hvj
    · exact hvj
    · cases hvj
end Go.Proofs.YtigliglmejkakaaGreat.Tgt

namespace Go.Proofs.YtigliglmejkakaaGreat.Tgt
open Go.RowKit
set_option linter.unusedVariables false
set_option linter.unusedSimpArgs false

theorem TAtL.load {w : World} {K : Nat → Prop} {n : Nat} {a : Option Addr} {c m : Nat} {l : List Tt} (h : TAtL w K n (.slice a m c) l) {i : Nat} {x : Tt} (hx : l[i]? = some x) : ∃ b o k1 k2 k3 k4, a = some ⟨b, o, none⟩ ∧ m ≤ c ∧ w.cell? ⟨b, o + i * 4, none⟩ = some (.int .i64 x.k) ∧ w.cell? ⟨b, o + i * 4 + 1, none⟩ = some (.int .i64 x.n) ∧ w.cell? ⟨b, o + i * 4 + 2, none⟩ = some (.slice k1 x.ls.length k2) ∧ w.cell? ⟨b, o + i * 4 + 3, none⟩ = some (.slice k3 x.ks.length k4) ∧ TAt w K n [.int .i64 x.k, .int .i64 x.n, .slice k1 x.ls.length k2, .slice k3 x.ks.length k4] x := by
  obtain ⟨b, o, ea, hP⟩ := h.elem hx
  obtain ⟨n', rfl⟩ := hP.pos
  obtain ⟨k1, k2, k3, k4, z0, z1, z2, z3, q1, q2, q3, q4⟩ := hP.cells
  refine ⟨b, o, k1, k2, k3, k4, ea, ?_, z0, z1, z2, z3, ⟨_, _, rfl, q1, q2, q3, q4⟩⟩
  rcases h with ⟨_, _, _, hv, _, hl, _⟩ | ⟨h0, -⟩
  · injection hv with e1 e2 e3; subst e2 e3; exact hl
  · rw [h0] at hx; simp at hx

def bindsK (k : Int) : Bool := decide (k = 9) || decide (k = 10) || decide (k = 11)

end Go.Proofs.YtigliglmejkakaaGreat.Tgt

namespace Go.Proofs.YtigliglmejkakaaGreat.Tgt
open Go.RowKit
set_option linter.unusedVariables false
set_option linter.unusedSimpArgs false

/-- What is bound, from the outermost on, as surroundings. -/
def envOf (B : List Int) : List (Int × Int) := B.foldl (fun e x => (x, (e.length : Int)) :: e) []
theorem envOf_snoc (B : List Int) (x : Int) : envOf (B ++ [x]) = (x, ((envOf B).length : Int)) :: envOf B := by unfold envOf; rw [List.foldl_append]; rfl
theorem envOf_len (B : List Int) : (envOf B).length = B.length := by
  have key : ∀ (B : List Int) (e : List (Int × Int)), (B.foldl (fun e x => (x, (e.length : Int)) :: e) e).length = e.length + B.length := by
    intro B
    induction B with
    | nil => intro e; rfl
    | cons x r ih => intro e; rw [List.foldl_cons, ih, List.length_cons, List.length_cons]; omega
  have := key B []
  simpa [envOf] using this
theorem envOf_pos : ∀ (n : Nat) (B : List Int) (x j : Int), B.length = n → lk (envOf B) x = some j → 0 ≤ j
  | 0, B, x, j, hl, h => by rw [List.eq_nil_of_length_eq_zero hl] at h; cases h
  | n + 1, B, x, j, hl, h => by
    have hne : B ≠ [] := fun e => by rw [e] at hl; cases hl
    rw [← List.dropLast_concat_getLast hne, envOf_snoc, lk_cons] at h
    split at h
    · injection h with h; rw [← h]; omega
    · exact envOf_pos n B.dropLast x j (by rw [List.length_dropLast]; omega) h
abbrev IT : TypeId := 3
/-- A list of numbers of its own. -/
def Ow (w : World) (v : Value) (l : List Int) : Prop := ∃ g, w.ownsRow g IT 1 v l.length (l.map (.int .i64))
theorem Ow.below {w w' : World} {v : Value} {l : List Int} (h : Ow w v l) (hb : Below w.heap.size w w') : Ow w' v l := by
  obtain ⟨g, h⟩ := h
  exact ⟨g, own_block h (fun b q => hb.block b (h.lt b q).2)⟩
theorem Ow.nil (w : World) : Ow w (.slice none 0 0) [] := ⟨0, World.ownsRow_nil _ _ _ _⟩
theorem Ow.form {w : World} {v : Value} {l : List Int} (h : Ow w v l) : ∃ a c, v = .slice a l.length c ∧ l.length ≤ maxLen ∧ (l.length ≤ c) ∧ ∀ (j : Nat) x, l[j]? = some x → ∃ g, a = some ⟨g, 0, none⟩ ∧ w.cell? ⟨g, j, none⟩ = some (.int .i64 x) := by
  obtain ⟨g, h⟩ := h
  rcases h.2 with ⟨rfl, h0⟩ | ⟨b, cap, cur, rfl, hb, hc, hn, hm, hs, ht⟩
  · rw [h0]
    refine ⟨_, _, rfl, Nat.zero_le _, Nat.le_refl _, fun j x hx => ?_⟩
    rw [List.eq_nil_of_length_eq_zero h0] at hx
    simp at hx
  · refine ⟨_, _, rfl, Nat.le_trans hn hm, hn, fun j x hx => ⟨b, rfl, ?_⟩⟩
    exact h.cells (g := b) rfl j _ (by rw [List.getElem?_map, hx]; rfl) |> fun q => by rw [addr_add', Nat.zero_add] at q; exact q
theorem info_int : (Tryz.prog.info? 3).map (fun i => (i.zero, i.size, i.bytes)) = some (some (.int .i64 0), 1, 8) := by kernel_rfl

/-- What a slice that is appended holds. -/
def Src (w : World) (k : Nat) (v : Value) (m : Nat) (news : List Value) : Prop := (v = .slice none 0 0 ∧ m = 0 ∧ news = []) ∨ ∃ ad c, v = .slice (some ad) m c ∧ news.length = m * k ∧ (∀ (j : Nat) u, news[j]? = some u → w.cell? (ad.add j) = some u) ∧ ∀ u ∈ news, u.oneCell' = true
theorem Ow.src {w : World} {v : Value} {l : List Int} (h : Ow w v l) : Src w 1 v l.length (l.map (.int .i64)) := by
  obtain ⟨g, h⟩ := h
  rcases h.2 with ⟨rfl, h0⟩ | ⟨b, cap, cur, rfl, hb, hc, hn, hm, hs, ht⟩
  · exact .inl ⟨rfl, h0, by rw [List.eq_nil_of_length_eq_zero h0]; rfl⟩
  · refine .inr ⟨⟨b, 0, none⟩, cap, rfl, by simp, h.cells (g := b) rfl, fun u hu => ?_⟩
    obtain ⟨x, -, rfl⟩ := List.mem_map.1 hu
    rfl
theorem wp_copy {P : Program} {ops : Array Oper} {rest : List Oper} {o : Oper} {a : Act} {w : World} {Q : Exit → Act → World → Prop} (hgd : o.guard = none) (s x : Operand) (t : TypeId)
    (ho : o.op = .call { callee := .builtin .append, args := #[s, x], argTypes := #[t, t] })
    (g : Nat) (e : TypeId) (i : TypeInfo) (z : Value) (size bytes : Nat) (ht : P.underlying t = some (.slice e)) (hi : P.info? e = some i) (hz : i.zero = some z)
    (hsize : i.size = size) (hby : i.bytes = bytes) (hzs : z.cells.size = size) (hsz : 0 < size) (hs : a.eval s = .slice (some ⟨g, 0, none⟩) 0 0) (hown : w.ownsRow g e size (.slice (some ⟨g, 0, none⟩) 0 0) 0 [])
    (v : Value) (m : Nat) (news : List Value) (hx : a.eval x = v) (hsrc : Src w size v m news) (hm : m ≤ 2199023255552) (hb : bytes ≤ 64) (hg : g ≤ w.heap.size)
    (h : ∀ v' w', w'.ownsRow g e size v' m news → Below g w w' → wpList P ops Q rest (a.put o.dst v') w') : wpList P ops Q (o :: rest) a w := by
  rcases hsrc with ⟨rfl, rfl, rfl⟩ | ⟨ad, c, rfl, hl, hnews, h1⟩
  · exact wpList_append_own_none hgd s x t ho g e i size ht hi _ 0 [] hs hown hx (h _ _ hown (Below.refl _ _))
  · refine wpList_append_own w hgd s x t ho g e i z size bytes ht hi hz hsize hby hzs hsz _ 0 [] hs hown ad m c news hx hl hnews h1 (by unfold maxLen; omega) (by rw [Nat.zero_add]; exact Nat.le_trans (Nat.mul_le_mul hm hb) (by decide)) hg ?_
    intro v' w' h2 h3 _
    rw [Nat.zero_add, List.nil_append] at h2
    exact h v' w' h2 ((Below.refl g w).grown h3 hg (fun b hb => (hown.lt b hb).1))

theorem Tt.binds_k (t : Tt) : t.binds = bindsK t.k := rfl
end Go.Proofs.YtigliglmejkakaaGreat.Tgt

namespace Go.Proofs.YtigliglmejkakaaGreat.Tgt
open Go.RowKit
set_option linter.unusedVariables false
set_option linter.unusedSimpArgs false

theorem Tt.cntL_get {l : List Tt} {k : Nat} {x : Tt} (hx : l[k]? = some x) : x.cnt ≤ Tt.cntL l := by
  have : ∀ (l : List Tt) (x : Tt), x ∈ l → x.cnt ≤ Tt.cntL l := by
    intro l
    induction l with
    | nil => intro x h; cases h
    | cons y r ih =>
      intro x h
      rw [Tt.cntL]
      rcases List.mem_cons.1 h with rfl | h
      · omega
      · have := ih x h; omega
  exact this l x (List.mem_of_getElem? hx)

theorem one_lv (X Y : List Int) (x y : Int) : Tt.one (envOf X) (envOf Y) x y = ((lk (envOf X) x).getD (-1) == (lk (envOf Y) y).getD (-1) && (decide (0 ≤ (lk (envOf X) x).getD (-1)) || x == y)) := by
  unfold Tt.one
  cases h1 : lk (envOf X) x with
  | none =>
    cases h2 : lk (envOf Y) y with
    | none => simp
    | some b =>
      have := envOf_pos _ Y y b rfl h2
      simp
      omega
  | some a =>
    have ha := envOf_pos _ X x a rfl h1
    cases h2 : lk (envOf Y) y with
    | none =>
      simp
      intro h
      omega
    | some b => simp [ha]
theorem sB {W1 W : World} {b1 b2 : Nat} {c1 c2 : List Value} (h : (∀ j : Nat, W.cell? ⟨b1, j, none⟩ = c1[j]?) ∧ (∀ j : Nat, W.cell? ⟨b2, j, none⟩ = c2[j]?) ∧ Below W1.heap.size W1 W) : Below W1.heap.size W1 W := h.2.2
theorem Sl.any' {w : World} {K : Nat → Prop} {v : Value} {l : List ByteArray} (h : Sl w K v l) : Sl w Any v l := h.move (Keeps.refl _ _) fun _ _ => trivial
theorem env_no {t : Tt} (h : t.binds = false) (e : List (Int × Int)) : t.env e = e := by unfold Tt.env; rw [h]; rfl
theorem env_yes {t : Tt} (h : t.binds = true) (X : List Int) : t.env (envOf X) = envOf (X ++ [t.n]) := by unfold Tt.env; rw [h, envOf_snoc]; rfl

end Go.Proofs.YtigliglmejkakaaGreat.Tgt

namespace Go.Proofs.YtigliglmejkakaaGreat
open Go.RowKit
set_option linter.unusedVariables false
set_option linter.unusedSimpArgs false

theorem eqLs_refl : ∀ l : List ByteArray, Tgt.Tt.eqLs l l = true
  | [] => by simp [Tgt.Tt.eqLs]
  | x :: r => by simp [Tgt.Tt.eqLs, Tgt.Tt.eqS, eqLs_refl r]
theorem one_refl (e : List (Int × Int)) (x : Int) : Tgt.Tt.one e e x x = true := by
  unfold Tgt.Tt.one
  cases Tgt.lk e x with
  | none => simp
  | some a => simp
mutual
theorem tsame_refl : ∀ (t : Tgt.Tt) (e : List (Int × Int)), Tgt.Tt.same t t e e = true
  | .mk k n ls ks, e => by
    rw [Tgt.Tt.same_mk]
    unfold Tgt.Tt.alike Tgt.Tt.num
    simp only [Tgt.Tt.ls, eqLs_refl, beq_self_eq_true, Bool.true_and, one_refl]
    have := tsameL_refl ks ((Tgt.Tt.mk k n ls ks).env e)
    simp only [Tgt.Tt.ks]
    rw [this]
    split
    · rfl
    · split <;> rfl
theorem tsameL_refl : ∀ (l : List Tgt.Tt) (e : List (Int × Int)), Tgt.Tt.sameL l l e e = true
  | [], e => by rw [Tgt.Tt.sameL]
  | x :: r, e => by
    rw [Tgt.Tt.sameL]
    show (Tgt.Tt.same x x e e && Tgt.Tt.sameL r r e e) = true
    rw [tsame_refl x e, tsameL_refl r e]
    rfl
end

set_option maxRecDepth 100000 in
theorem stamp14 (w : World) (n : Int) : Calls Tryz.prog 25 #[.int .i64 n] w fun e w' => e = .returned (.agg #[.int .i64 6, .int .i64 n, .slice none 0 0]) ∧ Below w.heap.size w w' := by
  go_enter Tryz.func25, Tryz.ntmps25
  go_wp2
  refine bodyPost_ret (v := .agg #[.int .i64 6, .int .i64 n, .slice none 0 0]) (by rw [results_cell1 (fn := Tryz.f25) (p := 2) (ty := 24) (by kernel_rfl)]; simp [go_sem]) rfl ?_
  exact ⟨rfl, bl_alloc (Below.refl _ _) _⟩

end Go.Proofs.YtigliglmejkakaaGreat

namespace Go.Proofs.YtigliglmejkakaaGreat
open Go.RowKit
set_option linter.unusedVariables false
set_option linter.unusedSimpArgs false

def listT : Tp := .mk 5 0 [.mk 1 0 [], .mk 6 5 []]
def listC : List Ct := [⟨(ByteArray.mk #[78, 105, 108]), []⟩, ⟨(ByteArray.mk #[67, 111, 110, 115]), [listT]⟩]
theorem tat0 {w : World} {K : Nat → Prop} (k n : Int) (h1 : R64 k) (h2 : R64 n) : TAt w K 1 [.int .i64 k, .int .i64 n, .slice none 0 0] (.mk k n []) := ⟨_, rfl, h1, h2, .inr ⟨rfl, none, 0, rfl⟩⟩
theorem list_tat {W : World} {p q : Nat} (hA : Arr W p 24 [.int .i64 1, .int .i64 0, .slice none 0 0, .int .i64 6, .int .i64 5, .slice none 0 0]) : TAt W Any 2 [.int .i64 5, .int .i64 0, .slice (some ⟨p, 0, none⟩) 2 2] listT := by
  refine ⟨_, rfl, ⟨by show (-9223372036854775808 : Int) ≤ 5; omega, by show (5 : Int) ≤ 9223372036854775807; omega⟩, ⟨by show (-9223372036854775808 : Int) ≤ 0; omega, by show (0 : Int) ≤ 9223372036854775807; omega⟩, .inl ⟨p, 0, 2, rfl, trivial, Nat.le_refl _, by unfold maxLen; show (2 : Nat) ≤ _; omega, fun i x hx => ?_⟩⟩
  match i, hx with
  | 0, hx =>
    simp [listT, Tp.ks] at hx
    subst hx
    exact ⟨_, fun j u hu => by
      rw [hA.cell]
      match j, hu with
      | 0, hu => exact hu
      | 1, hu => exact hu
      | 2, hu => exact hu
      | j + 3, hu => simp at hu, tat0 1 0 ⟨by omega, by omega⟩ ⟨by omega, by omega⟩⟩
  | 1, hx =>
    simp [listT, Tp.ks] at hx
    subst hx
    exact ⟨_, fun j u hu => by
      rw [hA.cell]
      match j, hu with
      | 0, hu => exact hu
      | 1, hu => exact hu
      | 2, hu => exact hu
      | j + 3, hu => simp at hu, tat0 6 5 ⟨by omega, by omega⟩ ⟨by omega, by omega⟩⟩
  | i + 2, hx => simp [listT, Tp.ks] at hx
theorem list_ctl {W : World} {p q r : Nat} (hA : Arr W p 24 [.int .i64 1, .int .i64 0, .slice none 0 0, .int .i64 6, .int .i64 5, .slice none 0 0]) (hC : Arr W q 24 [.int .i64 5, .int .i64 0, .slice (some ⟨p, 0, none⟩) 2 2]) (hD : Arr W r 125 [.string (ByteArray.mk #[78, 105, 108]), .slice none 0 0, .string (ByteArray.mk #[67, 111, 110, 115]), .slice (some ⟨q, 0, none⟩) 1 1]) : CtL W Any 2 (.slice (some ⟨r, 0, none⟩) 2 2) listC := by
  refine .inl ⟨r, 0, 2, rfl, trivial, Nat.le_refl _, by unfold maxLen; show (2 : Nat) ≤ _; omega, fun i c hc => ?_⟩
  match i, hc with
  | 0, hc =>
    simp [listC] at hc
    subst hc
    exact ⟨[.string (ByteArray.mk #[78, 105, 108]), .slice none 0 0], fun j u hu => by
      rw [hD.cell]
      match j, hu with
      | 0, hu => exact hu
      | 1, hu => exact hu
      | j + 2, hu => simp at hu, ⟨_, rfl, .inr ⟨rfl, none, 0, rfl⟩⟩⟩
  | 1, hc =>
    simp [listC] at hc
    subst hc
    exact ⟨[.string (ByteArray.mk #[67, 111, 110, 115]), .slice (some ⟨q, 0, none⟩) 1 1], fun j u hu => by
      rw [hD.cell]
      match j, hu with
      | 0, hu => exact hu
      | 1, hu => exact hu
      | j + 2, hu => simp at hu, ⟨_, rfl, .inl ⟨q, 0, 1, rfl, trivial, Nat.le_refl _, by unfold maxLen; show (1 : Nat) ≤ _; omega, fun i x hx => by
        match i, hx with
        | 0, hx =>
          simp at hx
          subst hx
          exact ⟨_, fun j u hu => by rw [hC.cell]; simpa using hu, list_tat (q := q) hA⟩
        | i + 1, hx => simp at hx⟩⟩⟩
  | i + 2, hc => simp [listC] at hc

set_option maxHeartbeats 1000000 in
set_option maxRecDepth 100000 in
theorem list14 (w : World) : Calls Tryz.prog 24 #[] w fun e w' => ∃ r, e = .returned (.slice (some ⟨r, 0, none⟩) 2 2) ∧ CtL w' Any 2 (.slice (some ⟨r, 0, none⟩) 2 2) listC ∧ Below w.heap.size w w' := by
  have HQ : Hid (Calls Tryz.prog 25 #[.int .i64 5] w fun e w' => e = .returned (.agg #[.int .i64 6, .int .i64 5, .slice none 0 0]) ∧ Below w.heap.size w w') := stamp14 w 5
  go_enter Tryz.func24, Tryz.ntmps24
  go_wp2_with (go_at_call 25; refine HQ.out.mono ?_; rintro e w3 ⟨rfl, b3⟩; have HB3 := hid b3; clear b3)
  go_ret
  have hA : Arr ((((w3.alloc (.cells #[.int .i64 1, .int .i64 0, .slice none 0 0, .int .i64 6, .int .i64 5, .slice none 0 0] 24)).alloc (.cells #[.int .i64 5, .int .i64 0, .slice (some ⟨w3.heap.size, 0, none⟩) 2 2] 24)).alloc (.cells #[.int .i64 5, .int .i64 0, .slice (some ⟨w3.heap.size, 0, none⟩) 2 2] 24)).alloc (.cells #[.string (ByteArray.mk #[78, 105, 108]), .slice none 0 0, .string (ByteArray.mk #[67, 111, 110, 115]), .slice (some ⟨w3.heap.size + 2, 0, none⟩) 1 1] 125)) w3.heap.size 24 [.int .i64 1, .int .i64 0, .slice none 0 0, .int .i64 6, .int .i64 5, .slice none 0 0] := Arr.stays (w := w3.alloc (.cells #[.int .i64 1, .int .i64 0, .slice none 0 0, .int .i64 6, .int .i64 5, .slice none 0 0] 24)) ⟨heap_alloc_at _ _⟩ (bl_alloc (bl_alloc (bl_alloc (Below.refl _ _) _) _) _)
  have hC : Arr ((((w3.alloc (.cells #[.int .i64 1, .int .i64 0, .slice none 0 0, .int .i64 6, .int .i64 5, .slice none 0 0] 24)).alloc (.cells #[.int .i64 5, .int .i64 0, .slice (some ⟨w3.heap.size, 0, none⟩) 2 2] 24)).alloc (.cells #[.int .i64 5, .int .i64 0, .slice (some ⟨w3.heap.size, 0, none⟩) 2 2] 24)).alloc (.cells #[.string (ByteArray.mk #[78, 105, 108]), .slice none 0 0, .string (ByteArray.mk #[67, 111, 110, 115]), .slice (some ⟨w3.heap.size + 2, 0, none⟩) 1 1] 125)) (w3.heap.size + 2) 24 [.int .i64 5, .int .i64 0, .slice (some ⟨w3.heap.size, 0, none⟩) 2 2] := by
    have := heap_alloc_at ((w3.alloc (.cells #[.int .i64 1, .int .i64 0, .slice none 0 0, .int .i64 6, .int .i64 5, .slice none 0 0] 24)).alloc (.cells #[.int .i64 5, .int .i64 0, .slice (some ⟨w3.heap.size, 0, none⟩) 2 2] 24)) (.cells #[.int .i64 5, .int .i64 0, .slice (some ⟨w3.heap.size, 0, none⟩) 2 2] 24)
    rw [size_alloc, size_alloc] at this
    exact Arr.stays (w := ((w3.alloc (.cells #[.int .i64 1, .int .i64 0, .slice none 0 0, .int .i64 6, .int .i64 5, .slice none 0 0] 24)).alloc (.cells #[.int .i64 5, .int .i64 0, .slice (some ⟨w3.heap.size, 0, none⟩) 2 2] 24)).alloc (.cells #[.int .i64 5, .int .i64 0, .slice (some ⟨w3.heap.size, 0, none⟩) 2 2] 24)) ⟨this⟩ (bl_alloc (Below.refl _ _) _)
  have hD : Arr ((((w3.alloc (.cells #[.int .i64 1, .int .i64 0, .slice none 0 0, .int .i64 6, .int .i64 5, .slice none 0 0] 24)).alloc (.cells #[.int .i64 5, .int .i64 0, .slice (some ⟨w3.heap.size, 0, none⟩) 2 2] 24)).alloc (.cells #[.int .i64 5, .int .i64 0, .slice (some ⟨w3.heap.size, 0, none⟩) 2 2] 24)).alloc (.cells #[.string (ByteArray.mk #[78, 105, 108]), .slice none 0 0, .string (ByteArray.mk #[67, 111, 110, 115]), .slice (some ⟨w3.heap.size + 2, 0, none⟩) 1 1] 125)) (w3.heap.size + 3) 125 [.string (ByteArray.mk #[78, 105, 108]), .slice none 0 0, .string (ByteArray.mk #[67, 111, 110, 115]), .slice (some ⟨w3.heap.size + 2, 0, none⟩) 1 1] := by
    have := heap_alloc_at (((w3.alloc (.cells #[.int .i64 1, .int .i64 0, .slice none 0 0, .int .i64 6, .int .i64 5, .slice none 0 0] 24)).alloc (.cells #[.int .i64 5, .int .i64 0, .slice (some ⟨w3.heap.size, 0, none⟩) 2 2] 24)).alloc (.cells #[.int .i64 5, .int .i64 0, .slice (some ⟨w3.heap.size, 0, none⟩) 2 2] 24)) (.cells #[.string (ByteArray.mk #[78, 105, 108]), .slice none 0 0, .string (ByteArray.mk #[67, 111, 110, 115]), .slice (some ⟨w3.heap.size + 2, 0, none⟩) 1 1] 125)
    rw [size_alloc, size_alloc, size_alloc] at this
    exact ⟨this⟩
  exact ⟨w3.heap.size + 3, rfl, list_ctl hA hC hD, bl_alloc (bl_alloc (bl_alloc (bl_alloc HB3.out _) _) _) _⟩
end Go.Proofs.YtigliglmejkakaaGreat
