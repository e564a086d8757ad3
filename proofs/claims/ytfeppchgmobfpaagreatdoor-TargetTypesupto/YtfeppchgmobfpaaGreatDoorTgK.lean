/- A row of types that is written anew; Clone. -/
import Derived.Test.YtfeppchgmobfpaaGreatDoorTgJ2
namespace Go.Proofs.YtfeppchgmobfpaaGreatDoor
open Go.RowKit
set_option linter.unusedVariables false
set_option linter.unusedSimpArgs false

/-- What Clone gives of n things of k cells each, whose cells hold these values. -/
def Cloned (w : World) (e : TypeId) (k n : Nat) (vals : List Value) (x : Ending) (w' : World) : Prop := ∃ v', x = .returned v' ∧ w'.ownsRow w.heap.size e k v' n vals ∧ Below w.heap.size w w'

theorem info_tt : (Tryz.prog.info? 25).map (fun i => (i.zero, i.size, i.bytes)) = some (some (.agg #[.int .i64 0, .int .i64 0, .slice none 0 0, .slice none 0 0]), 4, 64) := by kernel_rfl
set_option maxHeartbeats 2000000 in
set_option maxRecDepth 100000 in
theorem clone_raw (w : World) (a : Addr) (n c : Nat) (vals : List Value) (hl : vals.length = n * 4) (hc : ∀ (j : Nat) u, vals[j]? = some u → w.cell? (a.add j) = some u) (h1 : ∀ u ∈ vals, u.oneCell' = true) (hn : n ≤ 1099511627776) :
    Calls Tryz.prog 98 #[.slice (some a) n c] w (Cloned w 25 4 n vals) := by
  obtain ⟨i0, hi, hz0, hz1, hz2⟩ := info_parts0 info_tt
  have row0 := row_new w 25 4
  have q22 : ∀ (w : World) (a : Option Addr) (n c n' c' : Nat), (binOp .eql 23 (.slice a n c) (.slice none n' c')).run Tryz.prog w = .ok (.bool a.isNone) w := fun w a n c n' c' => Lib.run_eql_slice_nil w _ _ a n c n' c' Tryz.underlying23
  have A : Hid (∀ (j : Nat) u, vals[j]? = some u → w.cell? (a.add j) = some u) := hc
  clear hc
  go_enter Tryz.func98, Tryz.ntmps98
  go_wp2_with (at_builtin; refine wpList_append_own _ rfl _ _ 23 rfl w.heap.size 25 i0 (.agg #[.int .i64 0, .int .i64 0, .slice none 0 0, .slice none 0 0]) 4 64 Tryz.underlying23 hi hz0 hz1 hz2 rfl (by decide) _ _ _ rfl row0 a n c vals rfl hl ?qc2 h1 ?qc4 ?qc5 ?qc6 ?_)
  case qc2 =>
    intro j u hj
    exact Lib.cell?_alloc_some _ (A.out j u hj)
  case qc4 => unfold maxLen; omega
  case qc5 => omega
  case qc6 => simp
  intro v' w1 hown hgrow hnil
  go_wp2
  go_ret
  exact ⟨v', rfl, by simpa using hown, ((Below.refl _ w).alloc (Nat.le_refl _) _).grown hgrow (by simp) (by intro k hk; simp [Value.ownBlock] at hk; omega)⟩
abbrev TY : TypeId := 25
/-- Blocks that hold what was put together from n0 on, or what came in. -/
def Kr (M : Nat → Prop) (n0 : Nat) (own : Nat → Prop) (w : World) : Nat → Prop := fun b => (M b ∨ n0 ≤ b) ∧ Free own w b
theorem Kr.ev {M : Nat → Prop} {n0 : Nat} {own own' : Nat → Prop} {w w' : World} (hev : Ev own w own' w') : ∀ b, Kr M n0 own w b → Kr M n0 own' w' b := fun b hb => ⟨hb.1, by have := hb.2.1; have := hev.size; omega, fun hq => (hev.mine b hq).elim hb.2.2 (fun hl => by have := hb.2.1; omega)⟩
theorem Kr.keeps {M : Nat → Prop} {n0 : Nat} {own own' : Nat → Prop} {w w' : World} (hev : Ev own w own' w') : Keeps (Kr M n0 own w) w w' := fun b o v hb hv => hev.keeps b o v hb.2 hv
theorem Kr.le {M : Nat → Prop} {n0 n1 : Nat} {own : Nat → Prop} {w : World} (h : n1 ≤ n0) : ∀ b, Kr M n0 own w b → Kr M n1 own w b := fun b hb => ⟨hb.1.imp id (fun q => by omega), hb.2⟩
/-- A row of types in block g, beside what is owned. -/
structure Rw (M : Nat → Prop) (n0 : Nat) (w : World) (own : Nat → Prop) (g cap k : Nat) (L : List Tt) : Prop where
  ex : ∃ cur : List Value, Arr w g TY cur ∧ L.length * 4 ≤ cur.length ∧ ∀ (i : Nat) x, L[i]? = some x → ∃ vs, Seg cur (i * 4) vs ∧ TAt w (fun b => Kr M n0 own w b ∧ b ≠ g) k vs x
  no : ¬ own g
  ge : n0 ≤ g
  le : L.length ≤ cap
  mx : L.length ≤ maxLen
theorem Rw.lt {M : Nat → Prop} {n0 : Nat} {w : World} {own : Nat → Prop} {g cap k : Nat} {L : List Tt} (h : Rw M n0 w own g cap k L) : g < w.heap.size := by obtain ⟨cur, h1, -⟩ := h.ex; exact h1.lt
theorem Rw.ev {M : Nat → Prop} {n0 : Nat} {w w' : World} {own own' : Nat → Prop} {g cap k : Nat} {L : List Tt} (h : Rw M n0 w own g cap k L) (hev : Ev own w own' w') : Rw M n0 w' own' g cap k L := by
  obtain ⟨⟨cur, h1, h2, h3⟩, no, ge, le, mx⟩ := h
  refine ⟨⟨cur, ⟨(hev.block g h1.lt no).trans h1.b⟩, h2, fun i x hx => ?_⟩, fun hq => (hev.mine g hq).elim no (fun hl => by have := h1.lt; omega), ge, le, mx⟩
  obtain ⟨vs, s1, s2⟩ := h3 i x hx
  exact ⟨vs, s1, s2.move (fun b o v hb hv => hev.keeps b o v hb.1.2 hv) (fun b hb => ⟨Kr.ev hev b hb.1, hb.2⟩)⟩
theorem Rw.up {M : Nat → Prop} {n0 : Nat} {w : World} {own : Nat → Prop} {g cap k k' : Nat} {L : List Tt} (h : Rw M n0 w own g cap k L) (hk : k ≤ k') : Rw M n0 w own g cap k' L := by
  obtain ⟨⟨cur, h1, h2, h3⟩, no, ge, le, mx⟩ := h
  exact ⟨⟨cur, h1, h2, fun i x hx => by obtain ⟨vs, s1, s2⟩ := h3 i x hx; exact ⟨vs, s1, s2.le hk⟩⟩, no, ge, le, mx⟩
theorem Rw.stays {M : Nat → Prop} {n0 : Nat} {w w' : World} {own : Nat → Prop} {g cap k : Nat} {L : List Tt} (h : Rw M n0 w own g cap k L) (hb : Below w.heap.size w w') : Rw M n0 w' own g cap k L := h.ev (Ev.of_below hb)
/-- The row as a slice. -/
theorem Rw.slice {M : Nat → Prop} {n0 : Nat} {w : World} {own : Nat → Prop} {g cap k : Nat} {L : List Tt} (h : Rw M n0 w own g cap k L) : TAtL w (Kr M n0 own w) k (.slice (some ⟨g, 0, none⟩) L.length cap) L := by
  obtain ⟨⟨cur, h1, h2, h3⟩, no, ge, le, mx⟩ := h
  refine .inl ⟨g, 0, cap, rfl, ⟨.inr ge, h1.lt, no⟩, le, mx, fun i x hx => ?_⟩
  obtain ⟨vs, s1, s2⟩ := h3 i x hx
  refine ⟨vs, fun j v hv => ?_, s2.move (Keeps.refl _ _) (fun b hb => hb.1)⟩
  rw [h1.cell]
  have := s1 j v hv
  rw [Nat.zero_add]
  exact this
theorem Seg.set_ne {cur : List Value} {o : Nat} {vs : List Value} (h : Seg cur o vs) {p : Nat} (hp : p < o ∨ o + vs.length ≤ p) (v : Value) : Seg (cur.set p v) o vs := fun j u hu => by
  have := (List.getElem?_eq_some_iff.1 hu).1
  rw [List.getElem?_set_ne (by omega)]
  exact h j u hu
theorem TAt.len {w : World} {K : Nat → Prop} {k : Nat} {vs : List Value} {t : Tt} (h : TAt w K k vs t) : vs.length = 4 := by obtain ⟨a', c', a, c, rfl⟩ := h.form; rfl
/-- One of them is written anew. -/
theorem Rw.put {M : Nat → Prop} {n0 : Nat} {w : World} {own : Nat → Prop} {g cap k : Nat} {L : List Tt} (h : Rw M n0 w own g cap k L) {i : Nat} (hi : i < L.length) {v0 v1 v2 v3 : Value} {x : Tt} (hx : TAt w (fun b => Kr M n0 own w b ∧ b ≠ g) k [v0, v1, v2, v3] x) :
    Rw M n0 ((((w.setCell ⟨g, i * 4, none⟩ v0).setCell ⟨g, i * 4 + 1, none⟩ v1).setCell ⟨g, i * 4 + 2, none⟩ v2).setCell ⟨g, i * 4 + 3, none⟩ v3) own g cap k (L.set i x) := by
  obtain ⟨⟨cur, h1, h2, h3⟩, no, ge, le, mx⟩ := h
  have hkp : ∀ {u : World} {p : Addr} {v : Value}, p.block = g → Keeps (fun b => Kr M n0 own w b ∧ b ≠ g) u (u.setCell p v) := fun {u p v} hp => Keeps.set (fun hb => hb.2 hp) v
  have K4 : Keeps (fun b => Kr M n0 own w b ∧ b ≠ g) w ((((w.setCell ⟨g, i * 4, none⟩ v0).setCell ⟨g, i * 4 + 1, none⟩ v1).setCell ⟨g, i * 4 + 2, none⟩ v2).setCell ⟨g, i * 4 + 3, none⟩ v3) := (((hkp rfl).trans (hkp rfl)).trans (hkp rfl)).trans (hkp rfl)
  have hK : ∀ b, (Kr M n0 own w b ∧ b ≠ g) → (Kr M n0 own ((((w.setCell ⟨g, i * 4, none⟩ v0).setCell ⟨g, i * 4 + 1, none⟩ v1).setCell ⟨g, i * 4 + 2, none⟩ v2).setCell ⟨g, i * 4 + 3, none⟩ v3) b ∧ b ≠ g) := fun b hb => ⟨⟨hb.1.1, by simp only [World.setCell, Array.size_modify]; exact hb.1.2.1, hb.1.2.2⟩, hb.2⟩
  refine ⟨⟨(((cur.set (i * 4) v0).set (i * 4 + 1) v1).set (i * 4 + 2) v2).set (i * 4 + 3) v3, (((h1.set _ _).set _ _).set _ _).set _ _, by simp only [List.length_set]; exact h2, fun j y hy => ?_⟩, no, ge, by rw [List.length_set]; exact le, by rw [List.length_set]; exact mx⟩
  by_cases hj : i = j
  · subst hj
    rw [List.getElem?_set_self hi] at hy
    injection hy with hy
    subst hy
    refine ⟨[v0, v1, v2, v3], fun m v hm => ?_, hx.move K4 hK⟩
    have hl : i * 4 + 3 < cur.length := by omega
    match m, hm with
    | 0, hm => injection hm with hm; subst hm; rw [List.getElem?_set_ne (by omega), List.getElem?_set_ne (by omega), List.getElem?_set_ne (by omega), Nat.add_zero, List.getElem?_set_self (by omega)]
    | 1, hm => injection hm with hm; subst hm; rw [List.getElem?_set_ne (by omega), List.getElem?_set_ne (by omega), List.getElem?_set_self (by simp; omega)]
    | 2, hm => injection hm with hm; subst hm; rw [List.getElem?_set_ne (by omega), List.getElem?_set_self (by simp; omega)]
    | 3, hm => injection hm with hm; subst hm; rw [List.getElem?_set_self (by simp; omega)]
    | m + 4, hm => simp at hm
  · rw [List.getElem?_set_ne hj] at hy
    obtain ⟨vs, s1, s2⟩ := h3 j y hy
    have := s2.len
    exact ⟨vs, (((s1.set_ne (by omega) _).set_ne (by omega) _).set_ne (by omega) _).set_ne (by omega) _, s2.move K4 hK⟩
/-- Clone, of a list that is not empty. -/
theorem clone_row (M : Nat → Prop) (n0 : Nat) (w : World) (own : Nat → Prop) (ho : ∀ b, own b → b < w.heap.size) (hM : ∀ b, M b → ¬ own b) (k : Nat) (a : Option Addr) (c : Nat) (L : List Tt) (h : TAtL w M k (.slice a L.length c) L) (h0 : L ≠ []) (hn : L.length ≤ 1099511627776) (hn0 : n0 ≤ w.heap.size) : Calls Tryz.prog 98 #[.slice a L.length c] w fun r w' => ∃ g cap, r = .returned (.slice (some ⟨g, 0, none⟩) L.length cap) ∧ w.heap.size ≤ g ∧ Rw M n0 w' own g cap k L ∧ Below w.heap.size w w' := by
  have hE := h
  obtain ⟨b, o, c', hv, -, -, -, -⟩ := h.resolve_right (fun h => h0 h.1)
  injection hv with e1 e2 e3
  subst e1
  have hcell : ∀ j, j < L.length * 4 → ∃ u, w.cell? ⟨b, o + j, none⟩ = some u ∧ u.oneCell' = true := by
    intro j hj
    obtain ⟨x, hx⟩ : ∃ x, L[j / 4]? = some x := ⟨_, List.getElem?_eq_getElem (by omega)⟩
    obtain ⟨b', o', ea, hP⟩ := hE.elem hx
    injection ea with ea
    injection ea with ea eb _
    subst ea eb
    obtain ⟨m, rfl⟩ := hP.pos
    obtain ⟨_, _, _, _, x0, x1, x2, x3, -⟩ := hP.cells
    rcases (by omega : j % 4 = 0 ∨ j % 4 = 1 ∨ j % 4 = 2 ∨ j % 4 = 3) with hr | hr | hr | hr
    · exact ⟨_, by rw [show o + j = o + j / 4 * 4 by omega]; exact x0, rfl⟩
    · exact ⟨_, by rw [show o + j = o + j / 4 * 4 + 1 by omega]; exact x1, rfl⟩
    · exact ⟨_, by rw [show o + j = o + j / 4 * 4 + 2 by omega]; exact x2, rfl⟩
    · exact ⟨_, by rw [show o + j = o + j / 4 * 4 + 3 by omega]; exact x3, rfl⟩
  have hvl : ((List.range (L.length * 4)).map fun j => (w.cell? ⟨b, o + j, none⟩).getD (.bool false)).length = L.length * 4 := by simp
  have hvals : ∀ (j : Nat) u, ((List.range (L.length * 4)).map fun j => (w.cell? ⟨b, o + j, none⟩).getD (.bool false))[j]? = some u → w.cell? ⟨b, o + j, none⟩ = some u ∧ u.oneCell' = true := by
    intro j u hu
    obtain ⟨hj, e⟩ := List.getElem?_eq_some_iff.1 hu
    rw [hvl] at hj
    obtain ⟨u', g1, g2⟩ := hcell j hj
    rw [List.getElem_map, List.getElem_range, g1] at e
    have e : u' = u := e
    subst e
    exact ⟨g1, g2⟩
  generalize ((List.range (L.length * 4)).map fun j => (w.cell? ⟨b, o + j, none⟩).getD (.bool false)) = vals at hvl hvals
  refine (clone_raw w ⟨b, o, none⟩ L.length c vals hvl (fun j u hu => by rw [addr_add']; exact (hvals j u hu).1) (fun u hu => by obtain ⟨j, hj⟩ := List.getElem?_of_mem hu; exact (hvals j u hj).2) hn).mono ?_
  rintro r w' ⟨v', rfl, hown, hb⟩
  have hl0 : L.length ≠ 0 := fun e => h0 (List.eq_nil_of_length_eq_zero e)
  rcases hown.2 with ⟨-, e⟩ | ⟨g, cap, cur, rfl, hg, hcur, hcap, hcm, hcs, htk⟩
  · exact absurd e hl0
  · have hlen4 : cur.toList.length = cap * 4 := by rw [← hcs]; rfl
    refine ⟨g, cap, rfl, hg, ⟨⟨cur.toList, ⟨by simpa using hcur⟩, (by rw [hlen4]; omega), fun i x hx => ?_⟩, fun hq => by have := ho g hq; omega, by omega, hcap, Nat.le_trans hcap hcm⟩, hb⟩
    obtain ⟨b', o', ea, hP⟩ := hE.elem hx
    injection ea with ea
    injection ea with ea eb _
    subst ea eb
    obtain ⟨hbM, vs, g1, g2⟩ := hP
    have hil := (List.getElem?_eq_some_iff.1 hx).1
    refine ⟨vs, fun j v hv => ?_, (TAt.old g2).move (Keeps.of_below hb) (fun b hb2 => ⟨⟨.inl hb2.1, by have := hb2.2; have := hb.size; omega, fun hq => hM b hb2.1 hq⟩, by have := hb2.2; omega⟩)⟩
    have hj4 := (List.getElem?_eq_some_iff.1 hv).1
    have := g2.len
    have hcj := g1 j v hv
    rw [show o + i * 4 + j = o + (i * 4 + j) by omega] at hcj
    have hvj : vals[i * 4 + j]? = some v := by
      obtain ⟨u, hu⟩ : ∃ u, vals[i * 4 + j]? = some u := ⟨_, List.getElem?_eq_getElem (by omega)⟩
      have := (hvals _ _ hu).1
      rw [hcj] at this
      injection this with this
      rw [hu, this]
    rw [← htk, List.getElem?_take] at hvj
    split at hvj
    · exact hvj
    · cases hvj
end Go.Proofs.YtfeppchgmobfpaaGreatDoor
