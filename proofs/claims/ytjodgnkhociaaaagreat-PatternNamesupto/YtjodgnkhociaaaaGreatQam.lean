/- Values in new memory: slices.Clone, renew.List, renew.Value. What a fitter has bound so far; isLast. -/
import Derived.Test.YtjodgnkhociaaaaGreatQah
namespace Go.Proofs.YtjodgnkhociaaaaGreat
open Go.RowKit
set_option linter.unusedVariables false
set_option linter.unusedSimpArgs false

abbrev VT : TypeId := 28
theorem info_val : (Tryz.prog.info? VT).map (fun i => (i.zero, i.size, i.bytes)) = some (some (.agg #[.int .i64 0, .int .i64 0, .string { data := #[] }, .slice none 0 0]), 4, 56) := by kernel_rfl
set_option maxHeartbeats 2000000 in
set_option maxRecDepth 100000 in
theorem clone_rawV (w : World) (a : Addr) (n c : Nat) (vals : List Value) (hl : vals.length = n * 4) (hc : ∀ (j : Nat) u, vals[j]? = some u → w.cell? (a.add j) = some u) (h1 : ∀ u ∈ vals, u.oneCell' = true) (hn : n ≤ 2097152) :
    Calls Tryz.prog 19 #[.slice (some a) n c] w (Cloned w VT 4 n vals) := by
  obtain ⟨i0, hi, hz0, hz1, hz2⟩ := info_parts0 info_val
  have row0 := row_new w VT 4
  have q22 : ∀ (w : World) (a : Option Addr) (n c n' c' : Nat), (binOp .eql 26 (.slice a n c) (.slice none n' c')).run Tryz.prog w = .ok (.bool a.isNone) w := fun w a n c n' c' => Lib.run_eql_slice_nil w _ _ a n c n' c' Tryz.underlying26
  have A : Hid (∀ (j : Nat) u, vals[j]? = some u → w.cell? (a.add j) = some u) := hc
  clear hc
  go_enter Tryz.func19, Tryz.ntmps19
  go_wp2_with (at_builtin; refine wpList_append_own _ rfl _ _ 26 rfl w.heap.size VT i0 (.agg #[.int .i64 0, .int .i64 0, .string { data := #[] }, .slice none 0 0]) 4 56 Tryz.underlying26 hi hz0 hz1 hz2 rfl (by decide) _ _ _ rfl row0 a n c vals rfl hl ?qc2 h1 ?qc4 ?qc5 ?qc6 ?_)
  case qc2 =>
    intro j u hj
    exact Lib.cell?_alloc_some _ (A.out j u hj)
  case qc4 => unfold maxLen; omega
  case qc5 => omega
  case qc6 => simp
  intro v' w1 hown hgrow hnil
  go_wp2
  go_ret
  exact ⟨v', rfl, by simpa using hown, ((Below.refl _ w).alloc (Nat.le_refl _) _).grown hgrow (by simp) (by intro k hk; simp [Value.ownBlock] at hk; omega)⟩
set_option maxHeartbeats 1000000 in
theorem clone_nilV (w : World) (n c : Nat) : Calls Tryz.prog 19 #[.slice none n c] w fun e w' => e = .returned (.slice none 0 0) ∧ w' = w := by
  have q22 : ∀ (w : World) (a : Option Addr) (n c n' c' : Nat), (binOp .eql 26 (.slice a n c) (.slice none n' c')).run Tryz.prog w = .ok (.bool a.isNone) w := fun w a n c n' c' => Lib.run_eql_slice_nil w _ _ a n c n' c' Tryz.underlying26
  go_enter Tryz.func19, Tryz.ntmps19
  go_wp2
  go_ret
  exact ⟨rfl, rfl⟩
theorem addr_addV (b o k : Nat) : (⟨b, o, none⟩ : Addr).add k = ⟨b, o + k, none⟩ := by
  unfold Addr.add
  by_cases h : k = 0
  · subst h; simp
  · simp [h]
/-- The cells of a row, one behind the other. -/
theorem flat_gen {α : Type} {w : World} {b k : Nat} {R : List Value → α → Prop} : ∀ (l : List α) (o : Nat), (∀ (i : Nat) x, l[i]? = some x → ∃ vs, vs.length = k ∧ Cells w b (o + i * k) vs ∧ R vs x ∧ ∀ u ∈ vs, u.oneCell' = true) →
    ∃ vals : List Value, vals.length = l.length * k ∧ (∀ u ∈ vals, u.oneCell' = true) ∧ (∀ (j : Nat) u, vals[j]? = some u → w.cell? ⟨b, o + j, none⟩ = some u) ∧ ∀ (i : Nat) x, l[i]? = some x → ∃ vs, vs.length = k ∧ Seg vals (i * k) vs ∧ R vs x
  | [], o, h => ⟨[], by simp, by simp, by simp, by simp⟩
  | x :: r, o, h => by
    obtain ⟨vs, h1, h2, h3, h4⟩ := h 0 x rfl
    obtain ⟨vals, g1, g2, g3, g4⟩ := flat_gen (w := w) (b := b) (k := k) (R := R) r (o + k) (fun i y hy => by
      obtain ⟨vs, q1, q2, q3⟩ := h (i + 1) y (by simpa using hy)
      refine ⟨vs, q1, ?_, q3⟩
      rw [show o + k + i * k = o + (i + 1) * k by rw [Nat.add_mul]; omega]
      exact q2)
    refine ⟨vs ++ vals, by rw [List.length_append, h1, g1, List.length_cons, Nat.add_mul]; omega, fun u hu => ?_, fun j u hu => ?_, fun i y hy => ?_⟩
    · rcases List.mem_append.1 hu with hu | hu
      · exact h4 u hu
      · exact g2 u hu
    · by_cases hj : j < k
      · rw [List.getElem?_append_left (by omega)] at hu
        have := h2 j u hu
        simpa using this
      · rw [List.getElem?_append_right (by omega), h1] at hu
        have := g3 (j - k) u hu
        rw [show o + k + (j - k) = o + j by omega] at this
        exact this
    · cases i with
      | zero =>
        simp at hy
        subst hy
        refine ⟨vs, h1, fun j u hu => ?_, h3⟩
        have := (List.getElem?_eq_some_iff.1 hu).1
        rw [Nat.zero_mul, Nat.zero_add, List.getElem?_append_left this]
        exact hu
      | succ i =>
        obtain ⟨vs', q1, q2, q3⟩ := g4 i y (by simpa using hy)
        refine ⟨vs', q1, fun j u hu => ?_, q3⟩
        have := q2 j u hu
        rw [List.getElem?_append_right (by rw [h1, Nat.add_mul]; omega), h1, show (i + 1) * k + j - k = i * k + j by rw [Nat.add_mul]; omega]
        exact this
theorem VAt.one {w : World} {K : Nat → Prop} {n : Nat} {vs : List Value} {t : Vl} (h : VAt w K n vs t) : ∀ u ∈ vs, u.oneCell' = true := by
  obtain ⟨a, c, rfl, -⟩ := h.form
  intro u hu
  simp only [List.mem_cons, List.not_mem_nil, or_false] at hu
  rcases hu with rfl | rfl | rfl | rfl <;> rfl
theorem Seg.setOff {cur vs : List Value} {o p : Nat} {u : Value} (h : Seg cur o vs) (hp : p < o ∨ o + vs.length ≤ p) : Seg (cur.set p u) o vs := fun j x hx => by
  have := (List.getElem?_eq_some_iff.1 hx).1
  rw [List.getElem?_set_ne (by omega)]
  exact h j x hx
/-- While a list of values is renewed: the first i are. -/
structure Rn (W0 : World) (l : List Vl) (n g i N : Nat) (cur : List Value) (wr : World) : Prop where
  bl : Below W0.heap.size W0 wr
  lo : W0.heap.size ≤ g
  ar : Arr wr g VT cur
  nw : ∀ (j : Nat) x, j < i → l[j]? = some x → ∃ vs, VAt wr (fun b => W0.heap.size ≤ b ∧ b ≠ g) N vs x ∧ Seg cur (j * 4) vs
  od : ∀ (j : Nat) x, i ≤ j → l[j]? = some x → ∃ vs, VAt wr (fun b => b < W0.heap.size) n vs x ∧ Seg cur (j * 4) vs
theorem Rn.step {W0 : World} {l : List Vl} {n g i N : Nat} {cur : List Value} {wr W1 : World} (h : Rn W0 l n g i N cur wr) {x : Vl} (hx : l[i]? = some x) {kv : Value} {n' : Nat} (hb : Below wr.heap.size wr W1) (hk : VAtL W1 (fun b => wr.heap.size ≤ b) n' kv x.ks) :
    Rn W0 l n g (i + 1) (max N (n' + 1)) (cur.set (i * 4 + 3) kv) (W1.setCell ⟨g, i * 4 + 3, none⟩ kv) := by
  have hlo := h.lo
  have hgl := h.ar.lt
  have ksN : ∀ {n0 : Nat} {vs : List Value} {y : Vl}, VAt wr (fun b => W0.heap.size ≤ b ∧ b ≠ g) n0 vs y → VAt (W1.setCell ⟨g, i * 4 + 3, none⟩ kv) (fun b => W0.heap.size ≤ b ∧ b ≠ g) n0 vs y := fun hy =>
    (hy.below hb).move (Keeps.set (p := ⟨g, i * 4 + 3, none⟩) (fun h => h.2 rfl) _) (fun _ h => h)
  refine ⟨(bl_tr h.bl hb).setCell hlo _, hlo, (h.ar.stays hb).set _ _, fun j y hj hy => ?_, fun j y hj hy => ?_⟩
  · by_cases he : j = i
    · subst he
      rw [hx] at hy
      injection hy with hy
      subst hy
      obtain ⟨vs, h1, h2⟩ := h.od j x (Nat.le_refl _) hx
      obtain ⟨a, c, rfl, -⟩ := h1.form
      refine ⟨[.int .i64 x.k, .int .i64 x.n, .string x.s, kv], ?_, fun q u hu => ?_⟩
      · refine VAt.le (n := n' + 1) ⟨kv, rfl, ?_⟩ (Nat.le_max_right _ _)
        exact hk.move (Keeps.set (p := ⟨g, j * 4 + 3, none⟩) (fun h => by have h : wr.heap.size ≤ g := h; omega) _) (fun b hb => ⟨by have := h.bl.size; omega, by omega⟩)
      · match q, hu with
        | 0, hu => rw [List.getElem?_set_ne (by omega)]; exact h2 0 u hu
        | 1, hu => rw [List.getElem?_set_ne (by omega)]; exact h2 1 u hu
        | 2, hu => rw [List.getElem?_set_ne (by omega)]; exact h2 2 u hu
        | 3, hu =>
          have h3 := (List.getElem?_eq_some_iff.1 (h2 3 _ rfl)).1
          simp at hu
          subst hu
          rw [List.getElem?_set_self h3]
        | q + 4, hu => simp at hu
    · obtain ⟨vs, h1, h2⟩ := h.nw j y (by omega) hy
      obtain ⟨a, c, e, -⟩ := h1.form
      exact ⟨vs, (ksN h1).le (Nat.le_max_left _ _), h2.setOff (.inr (by rw [e]; simp; omega))⟩
  · obtain ⟨vs, h1, h2⟩ := h.od j y (by omega) hy
    obtain ⟨a, c, e, -⟩ := h1.form
    exact ⟨vs, (h1.below hb).move (Keeps.set (p := ⟨g, i * 4 + 3, none⟩) (fun h => by have h : g < W0.heap.size := h; omega) _) (fun _ h => h), h2.setOff (.inl (by omega))⟩
theorem Rn.fin {W0 : World} {l : List Vl} {n g i N c : Nat} {cur : List Value} {wr : World} (h : Rn W0 l n g i N cur wr) (hi : i = l.length) (hc : l.length ≤ c) (hm : l.length ≤ maxLen) : VAtL wr (fun b => W0.heap.size ≤ b) N (.slice (some ⟨g, 0, none⟩) l.length c) l := by
  refine .inl ⟨g, 0, c, rfl, h.lo, hc, hm, fun j x hx => ?_⟩
  obtain ⟨vs, h1, h2⟩ := h.nw j x (by rw [hi]; exact (List.getElem?_eq_some_iff.1 hx).1) hx
  obtain ⟨a, c', e, -⟩ := h1.form
  exact ⟨vs, by rw [e]; rfl, by rw [Nat.zero_add]; exact h2.cells h.ar, h1.move (Keeps.refl _ _) fun b hb => hb.1⟩

def RenV (n : Nat) : Prop := ∀ (W : World) (g o : Nat) (cur vs : List Value) (t : Vl), Arr W g VT cur → Seg cur o vs → VAt W (fun b => b ≠ g) n vs t → Vl.cntL t.ks ≤ 1048576 →
  Calls Tryz.prog 11 #[.pointer (some ⟨g, o, none⟩)] W fun e w' => e = .returned (.tuple #[]) ∧ ∃ W1 kv n', Below W.heap.size W W1 ∧ VAtL W1 (fun b => W.heap.size ≤ b) n' kv t.ks ∧ w' = W1.setCell ⟨g, o + 3, none⟩ kv
def RenL (n : Nat) : Prop := ∀ (W : World) (v : Value) (l : List Vl), VAtL W Any n v l → Vl.cntL l ≤ 1048576 →
  Calls Tryz.prog 10 #[v, .func (.func 11) #[] #[]] W fun e w' => ∃ v' n', e = .returned v' ∧ VAtL w' (fun b => W.heap.size ≤ b) n' v' l ∧ Below W.heap.size W w'

set_option maxHeartbeats 1000000 in
set_option maxRecDepth 100000 in
theorem renV_step (n : Nat) (ih : RenL n) : RenV (n + 1) := by
  intro W g o cur vs t hA hS hT hc
  obtain ⟨v, rfl, hL⟩ := hT
  obtain ⟨a, c, rfl, hm⟩ := hL.form
  have c3 : W.cell? ⟨g, o + 3, none⟩ = some (.slice a t.ks.length c) := (hA.cell _).trans (hS 3 _ rfl)
  have q : Hid (Calls Tryz.prog 10 #[.slice a t.ks.length c, .func (.func 11) #[] #[]] W fun e w' => ∃ a' c' n', e = .returned (.slice a' t.ks.length c') ∧ VAtL w' (fun b => W.heap.size ≤ b) n' (.slice a' t.ks.length c') t.ks ∧ Below W.heap.size W w') := by
    refine (ih W _ _ (VAtL.any hL) hc).mono ?_
    rintro e w' ⟨v', n', rfl, h1, h2⟩
    obtain ⟨a', c', rfl, -⟩ := h1.form
    exact ⟨a', c', n', rfl, h1, h2⟩
  have HA : Hid (Arr W g VT cur) := hA
  have HS3 := hid (hS 3 _ rfl)
  clear hA hS hL ih hc hm
  go_enter Tryz.func11, Tryz.ntmps11
  go_wp2_with (go_at_call 10; refine q.out.mono ?_; rintro e w1 ⟨a', c', n', rfl, h1, h2⟩; have fz := (HA.out.stays h2).frozen (o + 3); have x3 := ((HA.out.stays h2).cell (o + 3)).trans HS3.out; have H1 := hid h1; have H2 := hid h2; clear h1 h2)
  first | refine bodyPost_end (results_none rfl _ _ _) rfl ?_ | refine bodyPost_ret (results_none rfl _ _ _) rfl ?_
  exact ⟨rfl, w1, _, n', H2.out, H1.out, rfl⟩

set_option maxHeartbeats 2000000 in
set_option maxRecDepth 100000 in
theorem cloneV (W : World) (n : Nat) (a : Option Addr) (c : Nat) (l : List Vl) (hL : VAtL W Any n (.slice a l.length c) l) (hc : Vl.cntL l ≤ 1048576) :
    Calls Tryz.prog 19 #[.slice a l.length c] W fun e w' => ∃ a' c', e = .returned (.slice a' l.length c') ∧ ((l = [] ∧ Below W.heap.size W w') ∨ ∃ g cur, a' = some ⟨g, 0, none⟩ ∧ l.length ≤ c' ∧ Rn W l n g 0 0 cur w') := by
  have hn := Vl.cntL_len l
  rcases hL.old with ⟨b, o, c', hv, hb, hl, hm, he⟩ | ⟨rfl, p, c', hv⟩
  · injection hv with e1 e2 e3
    subst e1
    obtain ⟨vals, h1, h2, h3, h4⟩ := flat_gen (w := W) (b := b) (k := 4) (R := VAt W (fun b => b < W.heap.size) n) l o (fun i x hx => by
      obtain ⟨vs, q1, q2, q3⟩ := he i x hx
      exact ⟨vs, q1, q2, q3, q3.one⟩)
    refine (clone_rawV W ⟨b, o, none⟩ l.length c vals h1 (fun j u hu => by rw [addr_addV]; exact h3 j u hu) h2 (by omega)).mono ?_
    rintro e w' ⟨v', rfl, hown, hbl⟩
    rcases hown.2 with ⟨rfl, h0⟩ | ⟨g, cap, cur, rfl, hbg, hg, hnc, hcm, hcs, htk⟩
    · rw [h0]
      exact ⟨none, 0, rfl, .inl ⟨List.eq_nil_of_length_eq_zero h0, hbl⟩⟩
    · refine ⟨some ⟨g, 0, none⟩, cap, rfl, .inr ⟨g, cur.toList, rfl, hnc, hbl, hbg, ⟨by simpa using hg⟩, fun j x hj => absurd hj (Nat.not_lt_zero _), fun j x _ hx => ?_⟩⟩
      obtain ⟨vs, q1, q2, q3⟩ := h4 j x hx
      refine ⟨vs, q3.move (Keeps.of_below hbl) (fun _ h => h), fun q u hu => ?_⟩
      have := q2 q u hu
      rw [← htk, List.getElem?_take] at this
      split at this
      · exact this
      · cases this
  · injection hv with e1 e2 e3
    subst e1
    cases a with
    | none =>
      refine (clone_nilV W _ c).mono ?_
      rintro e w' ⟨rfl, hw⟩
      exact ⟨none, 0, rfl, .inl ⟨rfl, by rw [hw]; exact Below.refl _ _⟩⟩
    | some ad =>
      refine (clone_rawV W ad 0 c [] rfl (by simp) (by simp) (by omega)).mono ?_
      rintro e w' ⟨v', rfl, hown, hbl⟩
      obtain ⟨a', c', rfl⟩ := own_form hown
      exact ⟨a', c', rfl, .inl ⟨rfl, hbl⟩⟩

set_option maxHeartbeats 2000000 in
set_option maxRecDepth 100000 in
theorem renL_of (n : Nat) (ih : RenV n) : RenL n := by
  intro W v l hL hc
  obtain ⟨a, c, rfl, hm⟩ := hL.form
  have HM := hid hm
  have hml : l.length ≤ 1048576 := by have := Vl.cntL_len l; omega
  have HC := hid hc
  have HCl := hid (cloneV W n a c l hL hc)
  have HI : Hid (RenV n) := ih
  clear hL hc ih hm
  go_enter Tryz.func10, Tryz.ntmps10
  go_wp2_with (go_at_call 19; refine HCl.out.mono ?_; rintro e w1 ⟨a', c', rfl, h1⟩; have H1 := hid h1; clear h1 HCl)
  go_loopw [10] (fun v wr => ∃ k : Nat, v = .int .i64 k ∧ k ≤ l.length ∧ Hid ((l = [] ∧ Below W.heap.size W wr) ∨ ∃ g cur N, a' = some ⟨g, 0, none⟩ ∧ l.length ≤ c' ∧ Rn W l n g k N cur wr)) (fun v _ => l.length - (intOf v).toNat)
  case atStart => exact ⟨0, rfl, Nat.zero_le _, H1.out.imp id fun ⟨g, cur, q1, q2, q3⟩ => ⟨g, cur, 0, q1, q2, q3⟩⟩
  case round =>
    obtain ⟨k, rfl, hkl, hR⟩ := hrel
    clear H1
    by_cases hlt : k < l.length
    · obtain ⟨g, cur, N, rfl, hcl, hr⟩ : ∃ g cur N, a' = some ⟨g, 0, none⟩ ∧ l.length ≤ c' ∧ Rn W l n g k N cur wr := hR.out.resolve_left (fun h => by rw [h.1] at hlt; exact absurd hlt (Nat.not_lt_zero _))
      obtain ⟨x, hxk⟩ : ∃ x, l[k]? = some x := ⟨_, List.getElem?_eq_getElem hlt⟩
      have hxc : Vl.cntL x.ks ≤ 1048576 := by have := HC.out; have := Vl.cnt_mem (List.mem_of_getElem? hxk); have := Vl.cnt_ks x; omega
      obtain ⟨vs, x1, x2⟩ := hr.od k x (Nat.le_refl _) hxk
      have hlo := hr.lo
      have hQ : Hid (Calls Tryz.prog 11 #[.pointer (some ⟨g, k * 4, none⟩)] wr fun e w' => e = .returned (.tuple #[]) ∧ ∃ N', ∃ cur', Rn W l n g (k + 1) N' cur' w') := by
        refine (HI.out wr g (k * 4) cur vs x hr.ar x2 (x1.move (Keeps.refl _ _) (fun b hb => by omega)) hxc).mono ?_
        rintro e w' ⟨rfl, W1, kv, n', h1, h2, rfl⟩
        exact ⟨rfl, _, _, hr.step hxk h1 h2⟩
      have HCL := hid hcl
      clear hR hr x1 x2 hxk hxc hcl
      go_wp2_with (go_at_call 11; refine hQ.out.mono ?_; rintro e w3 ⟨rfl, N', cur', h3⟩; have H3 := hid h3; clear h3)
      go_roundw
      case rel => exact ⟨k + 1, by go_num, by omega, .inr ⟨g, _, _, rfl, HCL.out, H3.out⟩⟩
      case measure => simp [intOf]; omega
    · obtain rfl : k = l.length := by omega
      go_wp2
      go_ret
      rcases hR.out with ⟨h1, h2⟩ | ⟨g, cur, N, h1, h2, h3⟩
      · subst h1
        exact ⟨_, 0, rfl, GRow.empty _ _, h2⟩
      · subst h1
        exact ⟨_, N, rfl, h3.fin rfl h2 HM.out, h3.bl⟩
theorem renV_zero : RenV 0 := fun W g o cur vs t _ _ hT => hT.elim
theorem renL_any : ∀ n, RenL n
  | 0 => renL_of 0 renV_zero
  | n + 1 => renL_of (n + 1) (renV_step n (renL_any n))
end Go.Proofs.YtjodgnkhociaaaaGreat

namespace Go.Proofs.YtjodgnkhociaaaaGreat
open Go.RowKit
set_option linter.unusedVariables false
set_option linter.unusedSimpArgs false

abbrev FIT : TypeId := 37
abbrev STT : TypeId := 9
theorem info_str : (Tryz.prog.info? STT).map (fun i => (i.zero, i.size, i.bytes)) = some (some (.string { data := #[] }), 1, 16) := by kernel_rfl
def strV (s : ByteArray) : Value := .string s
/-- A fitter at F, its two rows in blocks from base on. -/
structure Ft (W : World) (F base : Nat) (nv pv : Value) (ns : List ByteArray) (ps : List Vl) (xs : List Value) (N : Nat) : Prop where
  bx : Arr W F FIT [nv, pv]
  nown : W.ownsRow base STT 1 nv ns.length (ns.map strV)
  pown : W.ownsRow base VT 4 pv ps.length xs
  ap : ∀ b, nv.ownBlock = some b → pv.ownBlock ≠ some b
  el : ∀ (i : Nat) y, ps[i]? = some y → ∃ vs, VAt W (· < F) N vs y ∧ Seg xs (i * 4) vs
  lo : F < base
  le : base ≤ W.heap.size
theorem Ft.stays {W W' : World} {F base : Nat} {nv pv : Value} {ns : List ByteArray} {ps : List Vl} {xs : List Value} {N : Nat} (h : Ft W F base nv pv ns ps xs N) (hb : Below W.heap.size W W') : Ft W' F base nv pv ns ps xs N :=
  ⟨h.bx.stays hb, own_stays h.nown hb, own_stays h.pown hb, h.ap, fun i y hy => by obtain ⟨vs, h1, h2⟩ := h.el i y hy; exact ⟨vs, h1.below hb, h2⟩, h.lo, Nat.le_trans h.le hb.size⟩
abbrev zvs : List Value := [.int .i64 0, .int .i64 0, .string { data := #[] }, .slice none 0 0]
theorem own_at {w w' : World} {base : Nat} {e : TypeId} {size : Nat} {v : Value} {n : Nat} {xs : List Value} (h : w.ownsRow base e size v n xs) (hb : ∀ b, v.ownBlock = some b → w'.heap[b]? = w.heap[b]?) : w'.ownsRow base e size v n xs := by
  refine ⟨h.1, ?_⟩
  rcases h.2 with h2 | ⟨g, cap, cur, rfl, h2, h3, h4⟩
  · exact .inl h2
  · exact .inr ⟨g, cap, cur, rfl, h2, (hb g rfl).trans h3, h4⟩
theorem Arr.off {w : World} {g : Nat} {T : TypeId} {cur : List Value} (h : Arr w g T cur) {b : Nat} (hp : g ≠ b) (j : Nat) (u : Value) : Arr (w.setCell ⟨b, j, none⟩ u) g T cur := h.other (p := ⟨b, j, none⟩) hp u
theorem own_stays_grown {w w' : World} {base : Nat} {e : TypeId} {size : Nat} {v : Value} {n : Nat} {xs : List Value} {row : Option Nat} (h : w.ownsRow base e size v n xs) (hg : w.grownBy w' row) (hne : ∀ b, v.ownBlock = some b → row ≠ some b) : w'.ownsRow base e size v n xs :=
  h.kept hg (by cases hv : v.ownBlock with
    | none => exact .inl rfl
    | some b => exact .inr fun e => hne b hv e.symm)
theorem app_one {P : Program} {w : World} {base : Nat} (t e : TypeId) (i : TypeInfo) (z : Value) (size bytes : Nat) (ht : P.underlying t = some (.slice e)) (hi : P.info? e = some i) (hz : i.zero = some z)
    (hsize : i.size = size) (hby : i.bytes = bytes) (hzs : z.cells.size = size) (hsz : 0 < size) (v : Value) (n : Nat) (xs news : List Value) (hown : w.ownsRow base e size v n xs) (hl : news.length = size) (h1 : ∀ u ∈ news, u.oneCell' = true)
    (h63 : n + 1 ≤ maxLen) (hbytes : (n + 1) * bytes ≤ 140737488355328) (hbase : base ≤ w.heap.size) :
    ∃ a' c' w', (Builtin.append_ #[t, t] t #[v, .slice (some ⟨w.heap.size, 0, none⟩) 1 1]).run P (w.alloc (.cells news.toArray e)) = .ok (.slice a' (n + 1) c') w' ∧ w'.ownsRow base e size (.slice a' (n + 1) c') (n + 1) (xs ++ news) ∧ (w.alloc (.cells news.toArray e)).grownBy w' v.ownBlock ∧ Fresh (w.alloc (.cells news.toArray e)) v (.slice a' (n + 1) c') := by
  obtain ⟨v', w', hr, h2, h3, h4⟩ := append_own2 (P := P) (w.alloc (.cells news.toArray e)) base t t e i z size bytes ht hi hz hsize hby hzs hsz v n xs (own_stays hown (bl_alloc (Below.refl _ _) _)) ⟨w.heap.size, 0, none⟩ 1 1 news (by omega)
    (fun j u hu => by rw [addr_addV, Nat.zero_add, cell_at (heap_alloc_at w _)]; simpa using hu) h1 h63 hbytes (by rw [size_alloc]; omega)
  obtain ⟨a', c', rfl⟩ := own_form h2
  exact ⟨a', c', w', hr, h2, h3, h4⟩
theorem Ft.rowN {W : World} {F base : Nat} {nv pv : Value} {ns : List ByteArray} {ps : List Vl} {xs : List Value} {N : Nat} (h : Ft W F base nv pv ns ps xs N) {b : Nat} (hb : nv.ownBlock = some b) : base ≤ b ∧ b < W.heap.size := h.nown.lt b hb
theorem Ft.rowP {W : World} {F base : Nat} {nv pv : Value} {ns : List ByteArray} {ps : List Vl} {xs : List Value} {N : Nat} (h : Ft W F base nv pv ns ps xs N) {b : Nat} (hb : pv.ownBlock = some b) : base ≤ b ∧ b < W.heap.size := h.pown.lt b hb
/-- One name more: the run of the append, and the state behind the store. -/
theorem Ft.name {W : World} {F base : Nat} {nv pv : Value} {ns : List ByteArray} {ps : List Vl} {xs : List Value} {N : Nat} (h : Ft W F base nv pv ns ps xs N) (hl : ns.length ≤ 2097152) (s : ByteArray) :
    ∃ a' c' w', (Builtin.append_ #[22, 22] 22 #[nv, .slice (some ⟨W.heap.size, 0, none⟩) 1 1]).run Tryz.prog (W.alloc (.cells #[.string s] STT)) = .ok (.slice a' (ns.length + 1) c') w' ∧
      Arr w' F FIT [nv, pv] ∧ (∀ b, b < base → w'.heap[b]? = W.heap[b]?) ∧
      Ft (w'.setCell ⟨F, 0, none⟩ (.slice a' (ns.length + 1) c')) F base (.slice a' (ns.length + 1) c') pv (ns ++ [s]) ps xs N ∧ Fe F base W (w'.setCell ⟨F, 0, none⟩ (.slice a' (ns.length + 1) c')) := by
  obtain ⟨i0, hi, hz0, hz1, hz2⟩ := info_parts0 info_str
  obtain ⟨a', c', w', hr, h2, h3, h4⟩ := app_one (P := Tryz.prog) 22 STT i0 _ 1 16 Tryz.underlying22 hi hz0 hz1 hz2 rfl (by decide) nv ns.length (ns.map strV) [.string s] h.nown rfl (by simp [Value.oneCell']) (by unfold maxLen; omega) (by omega) h.le
  have hlo := h.lo
  have hle := h.le
  have hb : ∀ b, b < base → w'.heap[b]? = W.heap[b]? := fun b hb => (h3.block b (by rw [size_alloc]; omega) (fun e => by have := h.rowN e.symm; omega)).trans (Below.heap_alloc _ _ b (by omega))
  have hsz : W.heap.size ≤ w'.heap.size := by have := h3.size; rw [size_alloc] at this; omega
  have hset : (w'.setCell ⟨F, 0, none⟩ (.slice a' (ns.length + 1) c')).heap.size = w'.heap.size := by simp [World.setCell]
  have hA : Arr w' F FIT [nv, pv] := ⟨(hb F hlo).trans h.bx.b⟩
  have grow : w'.grownBy (w'.setCell ⟨F, 0, none⟩ (.slice a' (ns.length + 1) c')) (some F) := ⟨rfl, rfl, rfl, by simp [World.setCell], fun b _ hb => Below.heap_setCell _ _ _ _ (fun e => hb (by simp [e]))⟩
  have hall : Fe F base W (w'.setCell ⟨F, 0, none⟩ (.slice a' (ns.length + 1) c')) := ⟨h3.os, h3.tape, h3.output, by rw [hset]; exact hsz, fun b h1 hne => (Below.heap_setCell _ _ _ _ hne).trans (hb b h1)⟩
  refine ⟨a', c', w', hr, hA, hb, ⟨hA.set 0 _, ?_, ?_, ?_, fun i y hy => ?_, hlo, by rw [hset]; omega⟩, hall⟩
  · rw [List.length_append, List.map_append]
    exact own_stays_grown h2 grow (fun b e e2 => by have := (h2.lt b e).1; injection e2 with e2; omega)
  · exact own_stays_grown (own_stays_grown (own_stays h.pown (bl_alloc (Below.refl _ _) _)) h3 (fun b e e2 => h.ap b e2 e)) grow (fun b e e2 => by have := (h.pown.lt b e).1; injection e2 with e2; omega)
  · intro b e e2
    rcases h4 with h5 | h5
    · exact h.ap b (h5 ▸ e) e2
    · have := h5 b e
      rw [size_alloc] at this
      have := (h.rowP e2).2
      omega
  · obtain ⟨vs, q1, q2⟩ := h.el i y hy
    exact ⟨vs, q1.move (hall.keeps (Nat.le_of_lt hlo)) (fun _ h => h), q2⟩
set_option maxHeartbeats 1000000 in
/-- One part more: the run of the append of a zero value; the state behind both stores, in either order. -/
theorem Ft.part {W : World} {F base : Nat} {nv pv : Value} {ns : List ByteArray} {ps : List Vl} {xs : List Value} {N : Nat} (h : Ft W F base nv pv ns ps xs N) (hl : ps.length ≤ 2097152) {vs : List Value} {v : Vl} {M : Nat} (hv : VAt W (· < F) M vs v) (hls : vs = [.int .i64 v.k, .int .i64 v.n, .string v.s, vs.getD 3 default]) :
    ∃ g c' w', (Builtin.append_ #[26, 26] 26 #[pv, .slice (some ⟨W.heap.size, 0, none⟩) 1 1]).run Tryz.prog (W.alloc (.cells #[.int .i64 0, .int .i64 0, .string { data := #[] }, .slice none 0 0] VT)) = .ok (.slice (some ⟨g, 0, none⟩) (ps.length + 1) c') w' ∧ ps.length + 1 ≤ c' ∧ F ≠ g ∧ base ≤ g ∧
      Arr w' F FIT [nv, pv] ∧ (∀ b, b < base → w'.heap[b]? = W.heap[b]?) ∧ (∀ j, w'.frozen? ⟨g, j, none⟩ = false) ∧ (∀ j, j < 4 → ∃ u, w'.cell? ⟨g, ps.length * 4 + j, none⟩ = some u) ∧
      ∀ w9, w9 = (((((w'.setCell ⟨g, ps.length * 4, none⟩ (.int .i64 v.k)).setCell ⟨g, ps.length * 4 + 1, none⟩ (.int .i64 v.n)).setCell ⟨g, ps.length * 4 + 2, none⟩ (.string v.s)).setCell ⟨g, ps.length * 4 + 3, none⟩ (vs.getD 3 default)).setCell ⟨F, 1, none⟩ (.slice (some ⟨g, 0, none⟩) (ps.length + 1) c')) ∨
        w9 = (((((w'.setCell ⟨F, 1, none⟩ (.slice (some ⟨g, 0, none⟩) (ps.length + 1) c')).setCell ⟨g, ps.length * 4, none⟩ (.int .i64 v.k)).setCell ⟨g, ps.length * 4 + 1, none⟩ (.int .i64 v.n)).setCell ⟨g, ps.length * 4 + 2, none⟩ (.string v.s)).setCell ⟨g, ps.length * 4 + 3, none⟩ (vs.getD 3 default)) →
      (∃ xs' N', Ft w9 F base nv (.slice (some ⟨g, 0, none⟩) (ps.length + 1) c') ns (ps ++ [v]) xs' N') ∧ Fe F base W w9 := by
  obtain ⟨i0, hi, hz0, hz1, hz2⟩ := info_parts0 info_val
  obtain ⟨a', c', w', hr, h2, h3, h4⟩ := app_one (P := Tryz.prog) 26 VT i0 _ 4 56 Tryz.underlying26 hi hz0 hz1 hz2 rfl (by decide) pv ps.length xs [.int .i64 0, .int .i64 0, .string { data := #[] }, .slice none 0 0] h.pown rfl (by simp [Value.oneCell']) (by unfold maxLen; omega) (by omega) h.le
  have hlo := h.lo
  have hle := h.le
  obtain ⟨g, hg⟩ : ∃ g, a' = some ⟨g, 0, none⟩ := by
    rcases h2.2 with ⟨hv, h0⟩ | ⟨g, cap, cur, hv, -⟩
    · omega
    · injection hv with e1; exact ⟨g, e1⟩
  subst hg
  have hgb := h2.lt g rfl
  have hcap : ps.length + 1 ≤ c' := by
    rcases h2.2 with ⟨hv, h0⟩ | ⟨g', cap, cur, hv, -, -, hnc, -⟩
    · omega
    · injection hv with e1 e2 e3; omega
  have hxl : xs.length = ps.length * 4 := h.pown.1
  have hb : ∀ b, b < base → w'.heap[b]? = W.heap[b]? := fun b hb => (h3.block b (by rw [size_alloc]; omega) (fun e => by have := h.rowP e.symm; omega)).trans (Below.heap_alloc _ _ b (by omega))
  have hsz : W.heap.size ≤ w'.heap.size := by have := h3.size; rw [size_alloc] at this; omega
  have hA : Arr w' F FIT [nv, pv] := ⟨(hb F hlo).trans h.bx.b⟩
  have hFg : F ≠ g := by omega
  refine ⟨g, c', w', hr, hcap, hFg, hgb.1, hA, hb, fun j => h2.frozenAt j, fun j hj => ?_, ?_⟩
  · rw [h2.cellAt _ (by omega)]
    exact ⟨_, List.getElem?_eq_getElem (by simp [hxl]; omega)⟩
  have hno : w'.ownsRow base STT 1 nv ns.length (ns.map strV) := own_stays_grown (own_stays h.nown (bl_alloc (Below.refl _ _) _)) h3 (fun b e e2 => h.ap b e e2)
  have hap : ∀ b, nv.ownBlock = some b → b ≠ g := by
    intro b e e2
    subst e2
    rcases h4 with h5 | h5
    · exact h.ap b e (h5 ▸ rfl)
    · have := h5 b rfl
      rw [size_alloc] at this
      have := (h.rowN e).2
      omega
  -- a world that has the same below base but for F, and these rows
  have key : ∀ w9 : World, w9.os = w'.os → w9.tape = w'.tape → w9.output = w'.output → w9.heap.size = w'.heap.size → (∀ b, b ≠ F → b ≠ g → w9.heap[b]? = w'.heap[b]?) → Arr w9 F FIT [nv, .slice (some ⟨g, 0, none⟩) (ps.length + 1) c'] →
      w9.ownsRow base VT 4 (.slice (some ⟨g, 0, none⟩) (ps.length + 1) c') (ps.length + 1) (((((xs ++ zvs).set (ps.length * 4) (.int .i64 v.k)).set (ps.length * 4 + 1) (.int .i64 v.n)).set (ps.length * 4 + 2) (.string v.s)).set (ps.length * 4 + 3) (vs.getD 3 default)) →
      (∃ xs' N', Ft w9 F base nv (.slice (some ⟨g, 0, none⟩) (ps.length + 1) c') ns (ps ++ [v]) xs' N') ∧ Fe F base W w9 := by
    intro w9 e1 e2 e3 e4 e5 e6 e7
    have hFe : Fe F base W w9 := ⟨e1.trans h3.os, e2.trans h3.tape, e3.trans h3.output, by rw [e4]; exact hsz, fun b h1 hne => (e5 b hne (by omega)).trans (hb b h1)⟩
    have kp := hFe.keeps (Nat.le_of_lt hlo)
    have hxs : ((((xs ++ zvs).set (ps.length * 4) (.int .i64 v.k)).set (ps.length * 4 + 1) (.int .i64 v.n)).set (ps.length * 4 + 2) (.string v.s)).set (ps.length * 4 + 3) (vs.getD 3 default) = xs ++ vs := by
      rw [← hxl, hls]
      rw [List.set_append_right _ _ (Nat.le_refl _), Nat.sub_self, List.set_append_right _ _ (by omega), List.set_append_right _ _ (by omega), List.set_append_right _ _ (by omega)]
      rw [show xs.length + 1 - xs.length = 1 by omega, show xs.length + 2 - xs.length = 2 by omega, show xs.length + 3 - xs.length = 3 by omega]
      rfl
    rw [hxs] at e7
    refine ⟨⟨xs ++ vs, max N M, e6, ?_, by rw [List.length_append]; exact e7, fun b e => by intro e8; have e8 : some g = some b := e8; injection e8 with e8; exact hap b e e8.symm, fun i y hy => ?_, hlo, by rw [e4]; omega⟩, hFe⟩
    · exact own_at hno fun b e => e5 b (fun e2 => by have := (hno.lt b e).1; omega) (hap b e)
    · by_cases he : i = ps.length
      · subst he
        rw [List.getElem?_append_right (Nat.le_refl _)] at hy
        simp at hy
        subst hy
        refine ⟨vs, (hv.move kp (fun _ h => h)).le (Nat.le_max_right _ _), fun j u hu => ?_⟩
        rw [List.getElem?_append_right (by omega), hxl, show ps.length * 4 + j - ps.length * 4 = j by omega]
        exact hu
      · have hi : i < ps.length := by
          have := (List.getElem?_eq_some_iff.1 hy).1
          rw [List.length_append] at this
          simp at this
          omega
        rw [List.getElem?_append_left hi] at hy
        obtain ⟨vs', q1, q2⟩ := h.el i y hy
        refine ⟨vs', (q1.move kp (fun _ h => h)).le (Nat.le_max_left _ _), fun j u hu => ?_⟩
        have := q2 j u hu
        have hj := (List.getElem?_eq_some_iff.1 this).1
        rw [List.getElem?_append_left hj]
        exact this
  intro w9 hw
  rcases hw with rfl | rfl
  · refine key _ (by rfl) (by rfl) (by rfl) (by simp [World.setCell]) (fun b h1 h2 => ?_) ?_ ?_
    · rw [Below.heap_setCell _ _ _ _ h1, Below.heap_setCell _ _ _ _ h2, Below.heap_setCell _ _ _ _ h2, Below.heap_setCell _ _ _ _ h2, Below.heap_setCell _ _ _ _ h2]
    · exact ((((hA.off hFg _ _).off hFg _ _).off hFg _ _).off hFg _ _).set 1 _
    · exact ownsRow_setCell_below ((((h2.stored _ _).1.stored _ _).1.stored _ _).1.stored _ _).1 (a := ⟨F, 1, none⟩) hlo _
  · refine key _ (by rfl) (by rfl) (by rfl) (by simp [World.setCell]) (fun b h1 h2 => ?_) ?_ ?_
    · rw [Below.heap_setCell _ _ _ _ h2, Below.heap_setCell _ _ _ _ h2, Below.heap_setCell _ _ _ _ h2, Below.heap_setCell _ _ _ _ h2, Below.heap_setCell _ _ _ _ h1]
    · exact ((((hA.set 1 _).off hFg _ _).off hFg _ _).off hFg _ _).off hFg _ _
    · exact (((((ownsRow_setCell_below h2 (a := ⟨F, 1, none⟩) hlo _).stored _ _).1.stored _ _).1.stored _ _).1.stored _ _).1
end Go.Proofs.YtjodgnkhociaaaaGreat
