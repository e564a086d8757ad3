/- A row of types that is written anew; Clone. An element of a list of types; the document's binds. The document's own: level, with. -/
import Derived.Test.YtigliglmejkakaaQbf
import Derived.Test.YtigliglmejkakaaQbe
namespace Go.Proofs.Ytigliglmejkakaa.Tgt
open Go.RowKit
set_option linter.unusedVariables false
set_option linter.unusedSimpArgs false

/-- What Clone gives of n things of k cells each, whose cells hold these values. -/
def Cloned (w : World) (e : TypeId) (k n : Nat) (vals : List Value) (x : Ending) (w' : World) : Prop := ∃ v', x = .returned v' ∧ w'.ownsRow w.heap.size e k v' n vals ∧ Below w.heap.size w w'

theorem info_tt : (Try.prog.info? 30).map (fun i => (i.zero, i.size, i.bytes)) = some (some (.agg #[.int .i64 0, .int .i64 0, .slice none 0 0, .slice none 0 0]), 4, 64) := by kernel_rfl
abbrev TY : TypeId := 30
/-- Blocks that hold what was put together from n0 on, or what came in. -/
def Kr (M : Nat → Prop) (n0 : Nat) (own : Nat → Prop) (w : World) : Nat → Prop := fun b => (M b ∨ n0 ≤ b) ∧ Free own w b
theorem Kr.ev {M : Nat → Prop} {n0 : Nat} {own own' : Nat → Prop} {w w' : World} (hev : Ev own w own' w') : ∀ b, Kr M n0 own w b → Kr M n0 own' w' b := fun b hb => ⟨hb.1, by have := hb.2.1; have := hev.size; omega, fun hq => (hev.mine b hq).elim hb.2.2 (fun hl => by have := hb.2.1; omega)⟩
theorem Kr.keeps {M : Nat → Prop} {n0 : Nat} {own own' : Nat → Prop} {w w' : World} (hev : Ev own w own' w') : Keeps (Kr M n0 own w) w w' := fun b o v hb hv => hev.keeps b o v hb.2 hv
theorem Kr.le {M : Nat → Prop} {n0 n1 : Nat} {own : Nat → Prop} {w : World} (h : n1 ≤ n0) : ∀ b, Kr M n0 own w b → Kr M n1 own w b := fun b hb => ⟨hb.1.imp id (fun q => by omega), hb.2⟩
/-- A row of types in block g, beside what is owned. -/
structure Rw (M : Nat → Prop) (n0 : Nat) (w : World) (own : Nat → Prop) (g cap k : Nat) (L : List Tt) : Prop where
  ex : ∃ cur : List Value, Arr w g TY cur ∧ L.length * 4 ≤ cur.length ∧ ∀ (i : Nat) x, L[i]? = some x → ∃ vs, Seg cur (i * 4) vs ∧ TAt w (fun b => Kr M n0 own w b ∧ b ≠ g) k vs x
  no : ¬ own g
  ge : n0 ≤ g
  le : L.length ≤ cap
  mx : L.length ≤ maxLen
theorem Rw.lt {M : Nat → Prop} {n0 : Nat} {w : World} {own : Nat → Prop} {g cap k : Nat} {L : List Tt} (h : Rw M n0 w own g cap k L) : g < w.heap.size := by obtain ⟨cur, h1, -⟩ := h.ex; exact h1.lt
theorem Rw.ev {M : Nat → Prop} {n0 : Nat} {w w' : World} {own own' : Nat → Prop} {g cap k : Nat} {L : List Tt} (h : Rw M n0 w own g cap k L) (hev : Ev own w own' w') : Rw M n0 w' own' g cap k L := by
  obtain ⟨⟨cur, h1, h2, h3⟩, no, ge, le, mx⟩ := h
  refine ⟨⟨cur, ⟨(hev.block g h1.lt no).trans h1.b⟩, h2, fun i x hx => ?_⟩, fun hq => (hev.mine g hq).elim no (fun hl => by have := h1.lt; omega), ge, le, mx⟩
  obtain ⟨vs, s1, s2⟩ := h3 i x hx
  exact ⟨vs, s1, s2.move (fun b o v hb hv => hev.keeps b o v hb.1.2 hv) (fun b hb => ⟨Kr.ev hev b hb.1, hb.2⟩)⟩
theorem Rw.up {M : Nat → Prop} {n0 : Nat} {w : World} {own : Nat → Prop} {g cap k k' : Nat} {L : List Tt} (h : Rw M n0 w own g cap k L) (hk : k ≤ k') : Rw M n0 w own g cap k' L := by
  obtain ⟨⟨cur, h1, h2, h3⟩, no, ge, le, mx⟩ := h
  exact ⟨⟨cur, h1, h2, fun i x hx => by obtain ⟨vs, s1, s2⟩ := h3 i x hx; exact ⟨vs, s1, s2.le hk⟩⟩, no, ge, le, mx⟩
theorem Rw.stays {M : Nat → Prop} {n0 : Nat} {w w' : World} {own : Nat → Prop} {g cap k : Nat} {L : List Tt} (h : Rw M n0 w own g cap k L) (hb : Below w.heap.size w w') : Rw M n0 w' own g cap k L := h.ev (Ev.of_below hb)
/-- The row as a slice. -/
theorem Rw.slice {M : Nat → Prop} {n0 : Nat} {w : World} {own : Nat → Prop} {g cap k : Nat} {L : List Tt} (h : Rw M n0 w own g cap k L) : TAtL w (Kr M n0 own w) k (.slice (some ⟨g, 0, none⟩) L.length cap) L := by
  obtain ⟨⟨cur, h1, h2, h3⟩, no, ge, le, mx⟩ := h
  refine .inl ⟨g, 0, cap, rfl, ⟨.inr ge, h1.lt, no⟩, le, mx, fun i x hx => ?_⟩
  obtain ⟨vs, s1, s2⟩ := h3 i x hx
  refine ⟨vs, fun j v hv => ?_, s2.move (Keeps.refl _ _) (fun b hb => hb.1)⟩
  rw [h1.cell]
  have := s1 j v hv
  rw [Nat.zero_add]
  exact this
theorem Seg.set_ne {cur : List Value} {o : Nat} {vs : List Value} (h : Seg cur o vs) {p : Nat} (hp : p < o ∨ o + vs.length ≤ p) (v : Value) : Seg (cur.set p v) o vs := fun j u hu => by
  have := (List.getElem?_eq_some_iff.1 hu).1
  rw [List.getElem?_set_ne (by omega)]
  exact h j u hu
theorem TAt.len {w : World} {K : Nat → Prop} {k : Nat} {vs : List Value} {t : Tt} (h : TAt w K k vs t) : vs.length = 4 := by obtain ⟨a', c', a, c, rfl⟩ := h.form; rfl
/-- One of them is written anew. -/
theorem Rw.put {M : Nat → Prop} {n0 : Nat} {w : World} {own : Nat → Prop} {g cap k : Nat} {L : List Tt} (h : Rw M n0 w own g cap k L) {i : Nat} (hi : i < L.length) {v0 v1 v2 v3 : Value} {x : Tt} (hx : TAt w (fun b => Kr M n0 own w b ∧ b ≠ g) k [v0, v1, v2, v3] x) :
    Rw M n0 ((((w.setCell ⟨g, i * 4, none⟩ v0).setCell ⟨g, i * 4 + 1, none⟩ v1).setCell ⟨g, i * 4 + 2, none⟩ v2).setCell ⟨g, i * 4 + 3, none⟩ v3) own g cap k (L.set i x) := by
  obtain ⟨⟨cur, h1, h2, h3⟩, no, ge, le, mx⟩ := h
  have hkp : ∀ {u : World} {p : Addr} {v : Value}, p.block = g → Keeps (fun b => Kr M n0 own w b ∧ b ≠ g) u (u.setCell p v) := fun {u p v} hp => Keeps.set (fun hb => hb.2 hp) v
  have K4 : Keeps (fun b => Kr M n0 own w b ∧ b ≠ g) w ((((w.setCell ⟨g, i * 4, none⟩ v0).setCell ⟨g, i * 4 + 1, none⟩ v1).setCell ⟨g, i * 4 + 2, none⟩ v2).setCell ⟨g, i * 4 + 3, none⟩ v3) := (((hkp rfl).trans (hkp rfl)).trans (hkp rfl)).trans (hkp rfl)
  have hK : ∀ b, (Kr M n0 own w b ∧ b ≠ g) → (Kr M n0 own ((((w.setCell ⟨g, i * 4, none⟩ v0).setCell ⟨g, i * 4 + 1, none⟩ v1).setCell ⟨g, i * 4 + 2, none⟩ v2).setCell ⟨g, i * 4 + 3, none⟩ v3) b ∧ b ≠ g) := fun b hb => ⟨⟨hb.1.1, by simp only [World.setCell, Array.size_modify]; exact hb.1.2.1, hb.1.2.2⟩, hb.2⟩
  refine ⟨⟨(((cur.set (i * 4) v0).set (i * 4 + 1) v1).set (i * 4 + 2) v2).set (i * 4 + 3) v3, (((h1.set _ _).set _ _).set _ _).set _ _, by simp only [List.length_set]; exact h2, fun j y hy => ?_⟩, no, ge, by rw [List.length_set]; exact le, by rw [List.length_set]; exact mx⟩
  by_cases hj : i = j
  · subst hj
    rw [List.getElem?_set_self hi] at hy
    injection hy with hy
    subst hy
    refine ⟨[v0, v1, v2, v3], fun m v hm => ?_, hx.move K4 hK⟩
    have hl : i * 4 + 3 < cur.length := by omega
    match m, hm with
    | 0, hm => injection hm with hm; subst hm; rw [List.getElem?_set_ne (by omega), List.getElem?_set_ne (by omega), List.getElem?_set_ne (by omega), Nat.add_zero, List.getElem?_set_self (by omega)]
    | 1, hm => injection hm with hm; subst hm; rw [List.getElem?_set_ne (by omega), List.getElem?_set_ne (by omega), List.getElem?_set_self (by simp; omega)]
    | 2, hm => injection hm with hm; subst hm; rw [List.getElem?_set_ne (by omega), List.getElem?_set_self (by simp; omega)]
    | 3, hm => injection hm with hm; subst hm; rw [List.getElem?_set_self (by simp; omega)]
    | m + 4, hm => simp at hm
  · rw [List.getElem?_set_ne hj] at hy
    obtain ⟨vs, s1, s2⟩ := h3 j y hy
    have := s2.len
    exact ⟨vs, (((s1.set_ne (by omega) _).set_ne (by omega) _).set_ne (by omega) _).set_ne (by omega) _, s2.move K4 hK⟩
end Go.Proofs.Ytigliglmejkakaa.Tgt

namespace Go.Proofs.Ytigliglmejkakaa.Tgt
open Go.RowKit
set_option linter.unusedVariables false
set_option linter.unusedSimpArgs false

theorem TAtL.load {w : World} {K : Nat → Prop} {n : Nat} {a : Option Addr} {c m : Nat} {l : List Tt} (h : TAtL w K n (.slice a m c) l) {i : Nat} {x : Tt} (hx : l[i]? = some x) : ∃ b o k1 k2 k3 k4, a = some ⟨b, o, none⟩ ∧ m ≤ c ∧ w.cell? ⟨b, o + i * 4, none⟩ = some (.int .i64 x.k) ∧ w.cell? ⟨b, o + i * 4 + 1, none⟩ = some (.int .i64 x.n) ∧ w.cell? ⟨b, o + i * 4 + 2, none⟩ = some (.slice k1 x.ls.length k2) ∧ w.cell? ⟨b, o + i * 4 + 3, none⟩ = some (.slice k3 x.ks.length k4) ∧ TAt w K n [.int .i64 x.k, .int .i64 x.n, .slice k1 x.ls.length k2, .slice k3 x.ks.length k4] x := by
  obtain ⟨b, o, ea, hP⟩ := h.elem hx
  obtain ⟨n', rfl⟩ := hP.pos
  obtain ⟨k1, k2, k3, k4, z0, z1, z2, z3, q1, q2, q3, q4⟩ := hP.cells
  refine ⟨b, o, k1, k2, k3, k4, ea, ?_, z0, z1, z2, z3, ⟨_, _, rfl, q1, q2, q3, q4⟩⟩
  rcases h with ⟨_, _, _, hv, _, hl, _⟩ | ⟨h0, -⟩
  · injection hv with e1 e2 e3; subst e2 e3; exact hl
  · rw [h0] at hx; simp at hx

def bindsK (k : Int) : Bool := decide (k = 9) || decide (k = 10) || decide (k = 11)

set_option maxHeartbeats 1000000 in
set_option maxRecDepth 100000 in
theorem rbinds_any (w : World) (k : Int) : Calls Try.prog 58 #[.int .i64 k] w fun e w' => e = .returned (.bool (bindsK k)) ∧ w' = w := by
  by_cases h9 : k = 9
  · subst h9
    have HR : Hid (bindsK 9 = true) := by show _ = _; rfl
    generalize bindsK 9 = res at HR ⊢
    go_enter Try.func58, Try.ntmps58
    go_wp2
    go_ret
    exact ⟨ret_bool HR.out.symm, rfl⟩
  by_cases h10 : k = 10
  · subst h10
    have HR : Hid (bindsK 10 = true) := by show _ = _; rfl
    generalize bindsK 10 = res at HR ⊢
    go_enter Try.func58, Try.ntmps58
    go_wp2
    go_ret
    exact ⟨ret_bool HR.out.symm, rfl⟩
  have HR : Hid (bindsK k = (k == 11)) := by show _ = _; unfold bindsK; simp [h9, h10]; rfl
  have g9 : (k == 9) = false := by simp [h9]
  have g10 : (k == 10) = false := by simp [h10]
  generalize bindsK k = res at HR ⊢
  clear h9 h10
  go_enter Try.func58, Try.ntmps58
  go_wp2
  go_ret
  exact ⟨ret_bool HR.out.symm, rfl⟩
end Go.Proofs.Ytigliglmejkakaa.Tgt

namespace Go.Proofs.Ytigliglmejkakaa.Tgt
open Go.RowKit
set_option linter.unusedVariables false
set_option linter.unusedSimpArgs false

/-- What is bound, from the outermost on, as surroundings. -/
def envOf (B : List Int) : List (Int × Int) := B.foldl (fun e x => (x, (e.length : Int)) :: e) []
theorem envOf_snoc (B : List Int) (x : Int) : envOf (B ++ [x]) = (x, ((envOf B).length : Int)) :: envOf B := by unfold envOf; rw [List.foldl_append]; rfl
theorem envOf_len (B : List Int) : (envOf B).length = B.length := by
  have key : ∀ (B : List Int) (e : List (Int × Int)), (B.foldl (fun e x => (x, (e.length : Int)) :: e) e).length = e.length + B.length := by
    intro B
    induction B with
    | nil => intro e; rfl
    | cons x r ih => intro e; rw [List.foldl_cons, ih, List.length_cons, List.length_cons]; omega
  have := key B []
  simpa [envOf] using this
theorem envOf_pos : ∀ (n : Nat) (B : List Int) (x j : Int), B.length = n → lk (envOf B) x = some j → 0 ≤ j
  | 0, B, x, j, hl, h => by rw [List.eq_nil_of_length_eq_zero hl] at h; cases h
  | n + 1, B, x, j, hl, h => by
    have hne : B ≠ [] := fun e => by rw [e] at hl; cases hl
    rw [← List.dropLast_concat_getLast hne, envOf_snoc, lk_cons] at h
    split at h
    · injection h with h; rw [← h]; omega
    · exact envOf_pos n B.dropLast x j (by rw [List.length_dropLast]; omega) h
abbrev IT : TypeId := 3
/-- A list of numbers of its own. -/
def Ow (w : World) (v : Value) (l : List Int) : Prop := ∃ g, w.ownsRow g IT 1 v l.length (l.map (.int .i64))
theorem Ow.below {w w' : World} {v : Value} {l : List Int} (h : Ow w v l) (hb : Below w.heap.size w w') : Ow w' v l := by
  obtain ⟨g, h⟩ := h
  exact ⟨g, own_block h (fun b q => hb.block b (h.lt b q).2)⟩
theorem Ow.nil (w : World) : Ow w (.slice none 0 0) [] := ⟨0, World.ownsRow_nil _ _ _ _⟩
theorem Ow.form {w : World} {v : Value} {l : List Int} (h : Ow w v l) : ∃ a c, v = .slice a l.length c ∧ l.length ≤ maxLen ∧ (l.length ≤ c) ∧ ∀ (j : Nat) x, l[j]? = some x → ∃ g, a = some ⟨g, 0, none⟩ ∧ w.cell? ⟨g, j, none⟩ = some (.int .i64 x) := by
  obtain ⟨g, h⟩ := h
  rcases h.2 with ⟨rfl, h0⟩ | ⟨b, cap, cur, rfl, hb, hc, hn, hm, hs, ht⟩
  · rw [h0]
    refine ⟨_, _, rfl, Nat.zero_le _, Nat.le_refl _, fun j x hx => ?_⟩
    rw [List.eq_nil_of_length_eq_zero h0] at hx
    simp at hx
  · refine ⟨_, _, rfl, Nat.le_trans hn hm, hn, fun j x hx => ⟨b, rfl, ?_⟩⟩
    exact h.cells (g := b) rfl j _ (by rw [List.getElem?_map, hx]; rfl) |> fun q => by rw [addr_add', Nat.zero_add] at q; exact q
theorem info_int : (Try.prog.info? 3).map (fun i => (i.zero, i.size, i.bytes)) = some (some (.int .i64 0), 1, 8) := by kernel_rfl

set_option maxHeartbeats 1000000 in
set_option maxRecDepth 100000 in
theorem level_any (w : World) (v : Value) (B : List Int) (n : Int) (h : Ow w v B) : Calls Try.prog 56 #[v, .int .i64 n] w fun e w' => e = .returned (.int .i64 ((lk (envOf B) n).getD (-1))) ∧ w' = w := by
  obtain ⟨a, c, rfl, hm, hcap, hC⟩ := h.form
  have hm : B.length ≤ 9223372036854775807 := hm
  have HC := hid hC
  have hw : IntKind.i64.wrap ((B.length : Int) - 1) = (B.length : Int) - 1 := by rw [IntKind.wrap_i64]; omega
  generalize hres : (lk (envOf B) n).getD (-1) = res
  have HR : Hid (res = (lk (envOf (B.take B.length)) n).getD (-1)) := by show _ = _; rw [List.take_length]; exact hres.symm
  clear h hC hres
  go_enter Try.func56, Try.ntmps56
  go_wp2
  go_loopw [5] (fun v wr => ∃ i : Nat, v = .int .i64 ((i : Int) - 1) ∧ i ≤ B.length ∧ Hid (res = (lk (envOf (B.take i)) n).getD (-1)) ∧ wr = w) (fun v _ => (intOf v + 1).toNat)
  case atStart => exact ⟨B.length, rfl, Nat.le_refl _, HR, rfl⟩
  case round =>
    obtain ⟨i, rfl, hil, hr, hwr⟩ := hrel
    subst hwr
    cases i with
    | zero =>
      have HF : Hid (res = -1) := by show _ = _; rw [hr.out]; rfl
      clear hr
      go_wp2
      go_ret
      exact ⟨ret_int HF.out.symm, rfl⟩
    | succ i =>
      obtain ⟨x, hx⟩ : ∃ x, B[i]? = some x := ⟨_, List.getElem?_eq_getElem (by omega)⟩
      obtain ⟨g, rfl, z⟩ := HC.out i x hx
      have htk : B.take (i + 1) = B.take i ++ [x] := by rw [List.take_add_one, hx]; rfl
      have hlen : (B.take i).length = i := by rw [List.length_take]; omega
      have e1 : ((i + 1 : Nat) : Int) - 1 = (i : Int) := by omega
      have hge : (i : Int) ≥ 0 := by omega
      have hlt : (i : Int) < B.length := by omega
      have hil2 : i < B.length := by omega
      rw [e1]
      by_cases hxn : x = n
      · have g1 : (x == n) = true := by simp [hxn]
        have HF : Hid (res = i) := by show _ = _; rw [hr.out, htk, envOf_snoc, lk_cons, envOf_len, hlen]; simp [hxn]
        clear hr hx hxn htk hlen e1
        go_wp2
        go_ret
        exact ⟨ret_int HF.out.symm, rfl⟩
      · have g1 : (x == n) = false := by simp [hxn]
        have HF : Hid (res = (lk (envOf (B.take i)) n).getD (-1)) := by show _ = _; rw [hr.out, htk, envOf_snoc, lk_cons]; simp [hxn]
        have hw2 : IntKind.i64.wrap ((i : Int) - 1) = (i : Int) - 1 := by rw [IntKind.wrap_i64]; omega
        clear hr hx hxn htk hlen e1
        go_wp2
        go_roundw
        case rel => exact ⟨i, by first | rfl | trivial, by omega, HF, by first | rfl | trivial⟩
        case measure => simp [intOf]
/-- What a slice that is appended holds. -/
def Src (w : World) (k : Nat) (v : Value) (m : Nat) (news : List Value) : Prop := (v = .slice none 0 0 ∧ m = 0 ∧ news = []) ∨ ∃ ad c, v = .slice (some ad) m c ∧ news.length = m * k ∧ (∀ (j : Nat) u, news[j]? = some u → w.cell? (ad.add j) = some u) ∧ ∀ u ∈ news, u.oneCell' = true
theorem Ow.src {w : World} {v : Value} {l : List Int} (h : Ow w v l) : Src w 1 v l.length (l.map (.int .i64)) := by
  obtain ⟨g, h⟩ := h
  rcases h.2 with ⟨rfl, h0⟩ | ⟨b, cap, cur, rfl, hb, hc, hn, hm, hs, ht⟩
  · exact .inl ⟨rfl, h0, by rw [List.eq_nil_of_length_eq_zero h0]; rfl⟩
  · refine .inr ⟨⟨b, 0, none⟩, cap, rfl, by simp, h.cells (g := b) rfl, fun u hu => ?_⟩
    obtain ⟨x, -, rfl⟩ := List.mem_map.1 hu
    rfl
theorem wp_copy {P : Program} {ops : Array Oper} {rest : List Oper} {o : Oper} {a : Act} {w : World} {Q : Exit → Act → World → Prop} (hgd : o.guard = none) (s x : Operand) (t : TypeId)
    (ho : o.op = .call { callee := .builtin .append, args := #[s, x], argTypes := #[t, t] })
    (g : Nat) (e : TypeId) (i : TypeInfo) (z : Value) (size bytes : Nat) (ht : P.underlying t = some (.slice e)) (hi : P.info? e = some i) (hz : i.zero = some z)
    (hsize : i.size = size) (hby : i.bytes = bytes) (hzs : z.cells.size = size) (hsz : 0 < size) (hs : a.eval s = .slice (some ⟨g, 0, none⟩) 0 0) (hown : w.ownsRow g e size (.slice (some ⟨g, 0, none⟩) 0 0) 0 [])
    (v : Value) (m : Nat) (news : List Value) (hx : a.eval x = v) (hsrc : Src w size v m news) (hm : m ≤ 2199023255552) (hb : bytes ≤ 64) (hg : g ≤ w.heap.size)
    (h : ∀ v' w', w'.ownsRow g e size v' m news → Below g w w' → wpList P ops Q rest (a.put o.dst v') w') : wpList P ops Q (o :: rest) a w := by
  rcases hsrc with ⟨rfl, rfl, rfl⟩ | ⟨ad, c, rfl, hl, hnews, h1⟩
  · exact wpList_append_own_none hgd s x t ho g e i size ht hi _ 0 [] hs hown hx (h _ _ hown (Below.refl _ _))
  · refine wpList_append_own w hgd s x t ho g e i z size bytes ht hi hz hsize hby hzs hsz _ 0 [] hs hown ad m c news hx hl hnews h1 (by unfold maxLen; omega) (by rw [Nat.zero_add]; exact Nat.le_trans (Nat.mul_le_mul hm hb) (by decide)) hg ?_
    intro v' w' h2 h3 _
    rw [Nat.zero_add, List.nil_append] at h2
    exact h v' w' h2 ((Below.refl g w).grown h3 hg (fun b hb => (hown.lt b hb).1))

set_option maxHeartbeats 1000000 in
set_option maxRecDepth 100000 in
theorem with_any (w : World) (v : Value) (B : List Int) (n : Int) (h : Ow w v B) (hl : B.length ≤ 1099511627776) : Calls Try.prog 59 #[v, .int .i64 n] w fun e w' => ∃ v', e = .returned v' ∧ Ow w' v' (B ++ [n]) ∧ Below w.heap.size w w' := by
  obtain ⟨i0, hi, hz0, hz1, hz2⟩ := info_parts0 info_int
  have hsrc := (h.below (bl_alloc (Below.refl _ _) (.cells #[] IT))).src
  have row0 := row_new w IT 1
  have HS := hid hsrc
  clear hsrc h
  go_enter Try.func59, Try.ntmps59
  go_wp2_with (first
    | (at_builtin; refine wp_copy rfl _ _ 49 rfl w.heap.size IT i0 (.int .i64 0) 1 8 Try.underlying49 hi hz0 hz1 hz2 rfl (by decide) rfl row0 v B.length _ rfl HS.out (by omega) (by decide) (by rw [size_alloc]; omega) ?_; intro v1 w1 ho1 hb1; have O1 := hid ho1; have B1 := hid hb1; clear ho1 hb1 HS row0)
    | (at_builtin; refine wpList_append_own _ rfl _ _ 49 rfl w.heap.size IT i0 (.int .i64 0) 1 8 Try.underlying49 hi hz0 hz1 hz2 rfl (by decide) _ _ _ rfl (O1.out.alloc _) ⟨w1.heap.size, 0, none⟩ 1 1 [.int .i64 n] rfl rfl ?c1 ?c2 ?c3 ?c4 ?c5 ?_))
  case c1 =>
    intro j u hj
    match j, hj with
    | 0, hj => simp at hj; subst hj; simp [Addr.add]
  case c2 => intro u hu; simp at hu; subst hu; rfl
  case c3 => unfold maxLen; omega
  case c4 => omega
  case c5 => have := B1.out.size; rw [size_alloc] at this; simp; omega
  intro v2 w2 ho2 hg2 _
  go_wp2
  go_ret
  refine ⟨v2, rfl, ⟨w.heap.size, ?_⟩, ?_⟩
  · have e1 : (B ++ [n]).length = B.length + 1 := by simp
    rw [e1]
    simpa using ho2
  · exact ((((Below.refl _ w).alloc (Nat.le_refl _) _).trans B1.out).alloc (by have := B1.out.size; rw [size_alloc] at this; omega) _).grown hg2 (by have := B1.out.size; rw [size_alloc] at this; simp; omega) (fun b hb => (O1.out.lt b hb).1)
theorem Tt.binds_k (t : Tt) : t.binds = bindsK t.k := rfl
end Go.Proofs.Ytigliglmejkakaa.Tgt
