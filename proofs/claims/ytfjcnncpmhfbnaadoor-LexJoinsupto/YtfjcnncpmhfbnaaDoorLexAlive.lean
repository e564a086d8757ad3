/- Tokens in memory; what must come at any rate (alive). -/
import Derived.Test.YtfjcnncpmhfbnaaDoorLexLex
import Derived.Test.YtfjcnncpmhfbnaaDoorLexC
namespace Go.Proofs.YtfjcnncpmhfbnaaDoor
open Go.RowKit
set_option linter.unusedVariables false

/-- A slice of a text's tokens, in memory. -/
def Toks (w : World) (v : Value) (S : Nat) (ts : List Lx.Tok) : Prop :=
  (v = .slice none 0 0 ∧ ts = []) ∨ ∃ g c, v = .slice (some ⟨g, 0, none⟩) ts.length c ∧ ts.length ≤ c ∧ g < w.heap.size ∧ ∀ j u, (ts.flatMap (Lx.cells S))[j]? = some u → w.cell? ⟨g, j, none⟩ = some u
theorem Lx.flat_len (S : Nat) (ts : List Lx.Tok) : (ts.flatMap (Lx.cells S)).length = ts.length * 4 := by
  induction ts with
  | nil => rfl
  | cons t ts ih => rw [List.flatMap_cons, List.length_append, ih, List.length_cons]; show 4 + _ = _; omega
theorem Lx.flat_at (S : Nat) : ∀ (ts : List Lx.Tok) (i : Nat) (t : Lx.Tok), ts[i]? = some t → ∀ k, k < 4 → (ts.flatMap (Lx.cells S))[4 * i + k]? = (Lx.cells S t)[k]?
  | [], i, t, h, k, hk => by cases i <;> cases h
  | a :: ts, 0, t, h, k, hk => by
    have : a = t := by simpa using h
    subst this
    rw [List.flatMap_cons, List.getElem?_append_left (by show 4 * 0 + k < 4; omega)]
    congr 1; omega
  | a :: ts, i + 1, t, h, k, hk => by
    rw [List.flatMap_cons, List.getElem?_append_right (by show 4 ≤ 4 * (i + 1) + k; omega)]
    show (ts.flatMap (Lx.cells S))[4 * (i + 1) + k - 4]? = _
    rw [show 4 * (i + 1) + k - 4 = 4 * i + k by omega]
    exact Lx.flat_at S ts i t (by simpa using h) k hk
theorem Toks.of_own {w : World} {B S : Nat} {v : Value} {ts : List Lx.Tok} (h : w.ownsRow B 39 4 v ts.length (ts.flatMap (Lx.cells S))) : Toks w v S ts := by
  rcases h.2 with ⟨hv, hn⟩ | ⟨g, cap, cur, hv, hb, hg, hle, rest⟩
  · exact .inl ⟨hv, List.eq_nil_of_length_eq_zero hn⟩
  · refine .inr ⟨g, cap, hv, hle, (Array.getElem?_eq_some_iff.1 hg).1, fun j u hu => ?_⟩
    have hj : j < ts.length * 4 := by
      rcases Nat.lt_or_ge j (ts.length * 4) with h | h
      · exact h
      · rw [List.getElem?_eq_none (by rw [Lx.flat_len]; exact h)] at hu; cases hu
    subst hv
    rw [h.cellAt j hj]; exact hu
theorem Toks.below {w w' : World} {v : Value} {S : Nat} {ts : List Lx.Tok} (h : Toks w v S ts) (hb : Below w.heap.size w w') : Toks w' v S ts := by
  rcases h with h | ⟨g, c, hv, hc, hg, h⟩
  · exact .inl h
  · exact .inr ⟨g, c, hv, hc, Nat.lt_of_lt_of_le hg hb.size, fun j u hu => (hb.cell hg).trans (h j u hu)⟩
theorem Toks.form {w : World} {v : Value} {S : Nat} {ts : List Lx.Tok} (h : Toks w v S ts) : ∃ a c, v = .slice a ts.length c := by
  rcases h with ⟨rfl, rfl⟩ | ⟨g, c, rfl, -⟩
  · exact ⟨_, _, rfl⟩
  · exact ⟨_, _, rfl⟩
/-- What the library's variable ErrRange must hold for the program to run. -/
def Er (w : World) : Prop := ∃ ev, w.cell? ⟨1, 0, none⟩ = some ev ∧ (ev = .nilIface ∨ ∃ te pe, ev = .iface te pe)
theorem Er.below {w w' : World} {B : Nat} (h : Er w) (hB : Below B w w') (hw : w.heap.size ≤ B) : Er w' := by
  obtain ⟨ev, h1, h2⟩ := h
  exact ⟨ev, (hB.cell (Nat.lt_of_lt_of_le (lxLt h1) hw)).trans h1, h2⟩
theorem lxLex_er (s : ByteArray) (hs : s.size ≤ maxLen) (w : World) (h : Er w) :
    Calls Tryd.prog 9 #[.string s] w fun e w' => LexAns (Lx.lex s.data.toList) s.size w.heap.size e w' ∧ Below w.heap.size w w' := by
  obtain ⟨ev, h1, h2⟩ := h
  exact lxLex_any s hs w ev h1 h2
theorem lxLex_good (s : ByteArray) (hs : s.size ≤ maxLen) (w : World) (h : Er w) {ts : List Lx.Tok} (hl : Lx.lex s.data.toList = .good ts) :
    Calls Tryd.prog 9 #[.string s] w fun e w' => (∃ v, e = .returned (.tuple #[v, .int .i64 0, .int .i64 0]) ∧ w'.ownsRow w.heap.size 39 4 v ts.length (ts.flatMap (Lx.cells s.size))) ∧ Below w.heap.size w w' := by
  refine (lxLex_er s hs w h).mono ?_
  rintro e w' ⟨ha, hb⟩
  rw [hl] at ha
  exact ⟨ha, hb⟩
theorem lxLex_bad (s : ByteArray) (hs : s.size ≤ maxLen) (w : World) (h : Er w) {n : Nat} {c : Int} (hl : Lx.lex s.data.toList = .bad n c) :
    Calls Tryd.prog 9 #[.string s] w fun e w' => e = .returned (.tuple #[.slice none 0 0, .int .i64 ((s.size - n : Nat) : Int), .int .i64 c]) ∧ Below w.heap.size w w' := by
  refine (lxLex_er s hs w h).mono ?_
  rintro e w' ⟨ha, hb⟩
  rw [hl] at ha
  exact ⟨ha, hb⟩

set_option maxRecDepth 100000 in
set_option maxHeartbeats 1000000 in
theorem lxAlive_any (w : World) (h : Er w) : Calls Tryd.prog 11 #[] w fun e w' => e = .returned (.bool true) ∧ Below w.heap.size w w' := by
  have c1 := fun w h => lxLex_good ⟨#[118, 97, 108, 32, 120, 32, 61, 32, 70, 40, 77, 41, 46, 121, 32, 40, 42, 32, 114, 32, 40, 42, 32, 115, 32, 42, 41, 32, 42, 41]⟩ (by decide) w h Lx.al1_lex
  have c2 := fun w h => lxLex_bad ⟨#[97, 32, 35, 32, 98]⟩ (by decide) w h Lx.al2_lex
  go_enter Tryd.func11, Tryd.ntmps11
  go_upto_region 3 with (first
    | (go_at_call 9; have _ := m1; refine (c2 _ (h.below hb1 (Nat.le_refl _))).mono ?_; rintro e w2 ⟨rfl, hb2⟩)
    | (go_at_call 9; refine (c1 _ h).mono ?_; rintro e w1 ⟨⟨v, rfl, hrow⟩, hb1⟩; have m1 := True.intro))
  have hrow2 := own_below hrow hb2
  obtain ⟨g, c, rfl⟩ : ∃ g c, v = .slice (some ⟨g, 0, none⟩) 9 c := by
    rcases hrow.2 with ⟨-, hn⟩ | ⟨g, cap, cur, hv, -⟩
    · cases hn
    · exact ⟨g, cap, hv⟩
  have k0 : w2.cell? ⟨g, 0, none⟩ = some (.int .i64 3) := (hrow2.cellAt 0 (by decide)).trans rfl
  have k3 : w2.cell? ⟨g, 12, none⟩ = some (.int .i64 2) := (hrow2.cellAt 12 (by decide)).trans rfl
  have k8 : w2.cell? ⟨g, 33, none⟩ = some (.string ⟨#[121]⟩) := (hrow2.cellAt 33 (by decide)).trans rfl
  have hB := lxTr hb1 hb2
  clear hrow hrow2 hb1 hb2 c1 c2
  go_wp2
  go_ret
  exact ⟨rfl, hB⟩
end Go.Proofs.YtfjcnncpmhfbnaaDoor
