/- bare. -/
import Derived.Test.YtjodgnkhociaaaaGreatQbe
namespace Go.Proofs.YtjodgnkhociaaaaGreat
open Go.RowKit
set_option linter.unusedVariables false
set_option linter.unusedSimpArgs false

mutual
def bareP : Pt → Pt
  | .mk k s p n ks => if k = 2 then .mk 1 ⟨#[]⟩ [] 0 ks else .mk k s p n (bareL ks)
def bareL : List Pt → List Pt
  | [] => []
  | x :: r => bareP x :: bareL r
end
theorem bareL_map : ∀ l : List Pt, bareL l = l.map bareP
  | [] => by rw [bareL]; rfl
  | x :: r => by rw [bareL, bareL_map r]; rfl
theorem bareP_eq (t : Pt) : bareP t = if t.k = 2 then .mk 1 ⟨#[]⟩ [] 0 t.ks else .mk t.k t.s t.p t.n (t.ks.map bareP) := by
  obtain ⟨k, s, p, n, ks⟩ := t
  rw [bareP, bareL_map]; rfl
theorem info_pat : (Tryz.prog.info? 25).map (fun i => (i.zero, i.size, i.bytes)) = some (some (.agg #[.int .i64 0, .string { data := #[] }, .slice none 0 0, .int .i64 0, .slice none 0 0]), 5, 80) := by kernel_rfl
theorem PtAt.one {w : World} {K : Nat → Prop} {n : Nat} {vs : List Value} {t : Pt} (h : PtAt w K n vs t) : ∀ u ∈ vs, u.oneCell' = true := by
  obtain ⟨a, c, a', c', rfl, -, -⟩ := h.form
  intro u hu
  simp only [List.mem_cons, List.not_mem_nil, or_false] at hu
  rcases hu with rfl | rfl | rfl | rfl | rfl <;> rfl
/-- A pattern that is being made: its box OB, the row of its Kids in blocks from base on. -/
structure Kb (w0 OB base : Nat) (k n : Int) (s : ByteArray) (pv : Value) (ys : List Pt) (N : Nat) (ov : Value) (xs : List Value) (wr : World) : Prop where
  ol : w0 ≤ OB
  lo : OB < base
  le : base ≤ wr.heap.size
  ob : Arr wr OB 25 [.int .i64 k, .string s, pv, .int .i64 n, ov]
  own : wr.ownsRow base 25 5 ov ys.length xs
  el : ∀ (i : Nat) y, ys[i]? = some y → ∃ vs, PtAt wr (fun b => (b < w0 ∨ base ≤ b) ∧ ov.ownBlock ≠ some b) N vs y ∧ Seg xs (i * 5) vs
theorem Kb.stays {w0 OB base : Nat} {k n : Int} {s : ByteArray} {pv : Value} {ys : List Pt} {N : Nat} {ov : Value} {xs : List Value} {wr wz : World} (h : Kb w0 OB base k n s pv ys N ov xs wr) (hb : Below wr.heap.size wr wz) : Kb w0 OB base k n s pv ys N ov xs wz :=
  ⟨h.ol, h.lo, Nat.le_trans h.le hb.size, h.ob.stays hb, own_stays h.own hb, fun i y hy => by obtain ⟨vs, h1, h2⟩ := h.el i y hy; exact ⟨vs, h1.below hb, h2⟩⟩
theorem Kb.app {w0 OB base : Nat} {k n : Int} {s : ByteArray} {pv : Value} {ys : List Pt} {N : Nat} {ov : Value} {xs : List Value} {wr w1 : World} (h : Kb w0 OB base k n s pv ys N ov xs wr) (hb : Below wr.heap.size wr w1) {n' : Nat} {vs : List Value} {y : Pt} (hT : PtAt w1 (fun b => b < w0 ∨ wr.heap.size ≤ b) n' vs y) {m : Nat} (hm : m = ys.length) (hl : m ≤ 1048576) :
    ∃ a' c' w2, (Builtin.append_ #[23, 23] 23 #[ov, .slice (some ⟨w1.heap.size, 0, none⟩) 1 1]).run Tryz.prog (w1.alloc (.cells vs.toArray 25)) = .ok (.slice a' (m + 1) c') w2 ∧
      Arr w2 OB 25 [.int .i64 k, .string s, pv, .int .i64 n, ov] ∧ (∀ b, b < base → b ≠ OB → w2.heap[b]? = wr.heap[b]?) ∧
      Kb w0 OB base k n s pv (ys ++ [y]) (max N n') (.slice a' (m + 1) c') (xs ++ vs) (w2.setCell ⟨OB, 4, none⟩ (.slice a' (m + 1) c')) ∧ Below OB wr (w2.setCell ⟨OB, 4, none⟩ (.slice a' (m + 1) c')) := by
  subst hm
  obtain ⟨i0, hi, hz0, hz1, hz2⟩ := info_parts0 info_pat
  have h1 := h.stays hb
  obtain ⟨fa, fc, ga, gc, hvs, -, -⟩ := hT.form
  obtain ⟨a', c', w2, hr, h2, h3, h4⟩ := app_one (P := Tryz.prog) 23 25 i0 _ 5 80 Tryz.underlying23 hi hz0 hz1 hz2 rfl (by decide) ov ys.length xs vs h1.own (by rw [hvs]; rfl) hT.one (by unfold maxLen; omega) (by omega) h1.le
  have hol := h.ol
  have hlo := h.lo
  have hle := h.le
  have hxl : xs.length = ys.length * 5 := h.own.1
  have hrow : ∀ b, ov.ownBlock = some b → base ≤ b := fun b e => (h.own.lt b e).1
  have hrow' : ∀ b, (Value.slice a' (ys.length + 1) c').ownBlock = some b → base ≤ b := fun b e => (h2.lt b e).1
  have hsz1 := hb.size
  have hb2 : ∀ b, b < w1.heap.size → ov.ownBlock ≠ some b → w2.heap[b]? = w1.heap[b]? := fun b hlt hne => (h3.block b (by rw [size_alloc]; omega) (fun e => hne e.symm)).trans (Below.heap_alloc _ _ b hlt)
  have hbase : ∀ b, b < base → w2.heap[b]? = wr.heap[b]? := fun b hlt => (hb2 b (by omega) (fun e => by have := hrow b e; omega)).trans (hb.block b (by omega))
  have hsz : w1.heap.size ≤ w2.heap.size := by have := h3.size; rw [size_alloc] at this; omega
  have hset : (w2.setCell ⟨OB, 4, none⟩ (.slice a' (ys.length + 1) c')).heap.size = w2.heap.size := by simp [World.setCell]
  have hA : Arr w2 OB 25 [.int .i64 k, .string s, pv, .int .i64 n, ov] := ⟨(hbase OB hlo).trans h.ob.b⟩
  -- what lay in w1, not in the row, lies there still
  have mv : ∀ {n0 : Nat} {us : List Value} {z : Pt}, PtAt w1 (fun b => (b < w0 ∨ base ≤ b) ∧ ov.ownBlock ≠ some b) n0 us z → PtAt (w2.setCell ⟨OB, 4, none⟩ (.slice a' (ys.length + 1) c')) (fun b => (b < w0 ∨ base ≤ b) ∧ (Value.slice a' (ys.length + 1) c').ownBlock ≠ some b) n0 us z := by
    intro n0 us z hz
    refine hz.both.move (fun b o u hb hu => ?_) (fun b hb => ⟨hb.1.1, fun e => ?_⟩)
    · have hne : b ≠ OB := by have := hb.1.1; omega
      rw [World.cell?_of_block (w := w2) (Below.heap_setCell _ _ _ _ hne), World.cell?_of_block (w := w1) (hb2 b hb.2 hb.1.2)]
      exact hu
    · rcases h4 with h5 | h5
      · exact hb.1.2 (h5 ▸ e)
      · have := h5 b e; rw [size_alloc] at this; have := hb.2; omega
  refine ⟨a', c', w2, hr, hA, fun b hlt _ => hbase b hlt, ⟨hol, hlo, by rw [hset]; omega, hA.set 4 _, ?_, fun i z hz => ?_⟩, ⟨h3.os.trans hb.os, h3.tape.trans hb.tape, h3.output.trans hb.output, by rw [hset]; omega, fun b hlt => (Below.heap_setCell _ _ _ _ (by show b ≠ OB; omega)).trans (hbase b (by omega))⟩⟩
  · rw [List.length_append]
    exact ownsRow_setCell_below h2 (a := ⟨OB, 4, none⟩) hlo _
  · by_cases he : i = ys.length
    · subst he
      rw [List.getElem?_append_right (Nat.le_refl _)] at hz
      simp at hz
      subst hz
      refine ⟨vs, (mv (hT.move (Keeps.refl _ _) (fun b hb' => ⟨by omega, fun e => by have := h.own.lt b e; omega⟩))).le (Nat.le_max_right _ _), fun j u hu => ?_⟩
      · rw [List.getElem?_append_right (by omega), hxl, show ys.length * 5 + j - ys.length * 5 = j by omega]
        exact hu
    · have hi : i < ys.length := by
        have := (List.getElem?_eq_some_iff.1 hz).1
        rw [List.length_append] at this
        simp at this
        omega
      rw [List.getElem?_append_left hi] at hz
      obtain ⟨us, q1, q2⟩ := h1.el i z hz
      refine ⟨us, (mv q1).le (Nat.le_max_left _ _), fun j u hu => ?_⟩
      have := q2 j u hu
      rw [List.getElem?_append_left (List.getElem?_eq_some_iff.1 this).1]
      exact this
theorem Kb.fin {w0 OB base : Nat} {k n : Int} {s : ByteArray} {pv : Value} {ys : List Pt} {N : Nat} {ov : Value} {xs : List Value} {wr : World} (h : Kb w0 OB base k n s pv ys N ov xs wr) : PtAtL wr (fun b => b < w0 ∨ base ≤ b) N ov ys := by
  rcases h.own.2 with ⟨rfl, h0⟩ | ⟨g, cap, cur, rfl, hb, hh, hle, hcm, hsz, htk⟩
  · have h0' : ys = [] := List.eq_nil_of_length_eq_zero h0
    subst h0'
    exact .inr ⟨rfl, none, 0, rfl⟩
  · refine .inl ⟨g, 0, cap, rfl, .inr hb, hle, by omega, fun i x hx => ?_⟩
    obtain ⟨vs, h1, h2⟩ := h.el i x hx
    obtain ⟨fa, fc, ga, gc, e, -, -⟩ := h1.form
    refine ⟨vs, by rw [e]; rfl, fun j u hu => ?_, h1.move (Keeps.refl _ _) (fun b hb => hb.1)⟩
    have hq := h2 j u hu
    rw [← htk, List.getElem?_take] at hq
    split at hq
    · rw [cell_at hh, Nat.zero_add]
      rw [Array.getElem?_toList] at hq
      exact hq
    · cases hq
theorem bareKeep {i b o kc xc yc S0 OB : Nat} {xa ya : Option Addr} {w wa wb : World} {t x : Pt} (he : ∀ q, q < S0 → q ≠ OB → wb.heap[q]? = wa.heap[q]?) (hb : b < S0) (hb2 : b ≠ OB) (hw : w.heap.size < S0) (hw2 : w.heap.size ≠ OB) (h : wa.cell? ⟨w.heap.size, 4, none⟩ = some (.slice (some ⟨b, o, none⟩) t.ks.length kc) ∧ wa.cell? ⟨b, o + i * 5, none⟩ = some (.int .i64 x.k) ∧ wa.cell? ⟨b, o + i * 5 + 1, none⟩ = some (.string x.s) ∧ wa.cell? ⟨b, o + i * 5 + 2, none⟩ = some (.slice xa x.p.length xc) ∧ wa.cell? ⟨b, o + i * 5 + 3, none⟩ = some (.int .i64 x.n) ∧ wa.cell? ⟨b, o + i * 5 + 4, none⟩ = some (.slice ya x.ks.length yc)) : wb.cell? ⟨w.heap.size, 4, none⟩ = some (.slice (some ⟨b, o, none⟩) t.ks.length kc) ∧ wb.cell? ⟨b, o + i * 5, none⟩ = some (.int .i64 x.k) ∧ wb.cell? ⟨b, o + i * 5 + 1, none⟩ = some (.string x.s) ∧ wb.cell? ⟨b, o + i * 5 + 2, none⟩ = some (.slice xa x.p.length xc) ∧ wb.cell? ⟨b, o + i * 5 + 3, none⟩ = some (.int .i64 x.n) ∧ wb.cell? ⟨b, o + i * 5 + 4, none⟩ = some (.slice ya x.ks.length yc) := by
  obtain ⟨q0, q1, q2, q3, q4, q5⟩ := h
  exact ⟨(World.cell?_of_block (w := wa) (he _ hw hw2)).trans q0, (World.cell?_of_block (w := wa) (he _ hb hb2)).trans q1, (World.cell?_of_block (w := wa) (he _ hb hb2)).trans q2, (World.cell?_of_block (w := wa) (he _ hb hb2)).trans q3, (World.cell?_of_block (w := wa) (he _ hb hb2)).trans q4, (World.cell?_of_block (w := wa) (he _ hb hb2)).trans q5⟩
theorem Arr.under {w w' : World} {b m : Nat} {T : TypeId} {cur : List Value} (h : Arr w b T cur) (hb : Below m w w') (hlt : b < m) : Arr w' b T cur := ⟨(hb.block b hlt).trans h.b⟩
theorem res_cells5 {W : World} {B : Nat} {T : TypeId} {a b c d e a' b' c' d' e' : Value} (h : Arr W B T [a, b, c, d, e]) : Arr (((((W.setCell ⟨B, 0, none⟩ a').setCell ⟨B, 1, none⟩ b').setCell ⟨B, 2, none⟩ c').setCell ⟨B, 3, none⟩ d').setCell ⟨B, 4, none⟩ e') B T [a', b', c', d', e'] := ((((h.set 0 a').set 1 b').set 2 c').set 3 d').set 4 e'
theorem below_cells5 {W W' : World} {B m : Nat} {a' b' c' d' e' : Value} (h : Below m W W') (hm : m ≤ B) : Below m W (((((W'.setCell ⟨B, 0, none⟩ a').setCell ⟨B, 1, none⟩ b').setCell ⟨B, 2, none⟩ c').setCell ⟨B, 3, none⟩ d').setCell ⟨B, 4, none⟩ e') := ((((h.setCell hm a').setCell hm b').setCell hm c').setCell hm d').setCell hm e'
theorem keeps_cells5 {K : Nat → Prop} {W : World} {B : Nat} {a' b' c' d' e' : Value} (hK : ¬ K B) : Keeps K W (((((W.setCell ⟨B, 0, none⟩ a').setCell ⟨B, 1, none⟩ b').setCell ⟨B, 2, none⟩ c').setCell ⟨B, 3, none⟩ d').setCell ⟨B, 4, none⟩ e') :=
  ((((Keeps.set (p := ⟨B, 0, none⟩) hK a').trans (Keeps.set (p := ⟨B, 1, none⟩) hK b')).trans (Keeps.set (p := ⟨B, 2, none⟩) hK c')).trans (Keeps.set (p := ⟨B, 3, none⟩) hK d')).trans (Keeps.set (p := ⟨B, 4, none⟩) hK e')
def BareOf (w0 n : Nat) : Prop := ∀ (w : World) (vs : List Value) (t : Pt), w0 ≤ w.heap.size → PtAt w (· < w0) n vs t → t.cnt ≤ 1048576 → Calls Tryz.prog 6 #[.agg vs.toArray] w fun e w' => ∃ n' k s z p l c m d e', e = .returned (.agg #[.int .i64 k, .string s, .slice p l c, .int .i64 z, .slice m d e']) ∧ PtAt w' (fun b => b < w0 ∨ w.heap.size ≤ b) n' [.int .i64 k, .string s, .slice p l c, .int .i64 z, .slice m d e'] (bareP t) ∧ Below w.heap.size w w'

set_option maxHeartbeats 4000000 in
set_option maxRecDepth 100000 in
theorem bare_step (w0 n : Nat) (ih : BareOf w0 n) : BareOf w0 (n + 1) := by
  intro w vs t h0 hP hc
  obtain ⟨pa, pc, ka, kc, rfl, hmp, hm⟩ := hP.form
  unfold maxLen at hm
  obtain ⟨pv, kv, e, hPp, hPk⟩ := hP
  simp only [List.cons.injEq, and_true, true_and] at e
  obtain ⟨rfl, rfl⟩ := e
  have hcnt := Pt.cnt_ks t
  have hlk := Pt.cntL_len t.ks
  have hbb := bl_alloc (bl_alloc (Below.refl w.heap.size w) (.cells #[.int .i64 t.k, .string t.s, .slice pa t.p.length pc, .int .i64 t.n, .slice ka t.ks.length kc] 25)) (.cells #[.int .i64 0, .string { data := #[] }, .slice none 0 0, .int .i64 0, .slice none 0 0] 25)
  have x0 : Arr (w.alloc (.cells #[.int .i64 t.k, .string t.s, .slice pa t.p.length pc, .int .i64 t.n, .slice ka t.ks.length kc] 25)) w.heap.size 25 [.int .i64 t.k, .string t.s, .slice pa t.p.length pc, .int .i64 t.n, .slice ka t.ks.length kc] := ⟨heap_alloc_at _ _⟩
  have X0 := hid (x0.stays (bl_alloc (Below.refl _ _) (.cells #[.int .i64 0, .string { data := #[] }, .slice none 0 0, .int .i64 0, .slice none 0 0] 25)))
  have X1 : Hid (Arr ((w.alloc (.cells #[.int .i64 t.k, .string t.s, .slice pa t.p.length pc, .int .i64 t.n, .slice ka t.ks.length kc] 25)).alloc (.cells #[.int .i64 0, .string { data := #[] }, .slice none 0 0, .int .i64 0, .slice none 0 0] 25)) (w.heap.size + 1) 25 [.int .i64 0, .string { data := #[] }, .slice none 0 0, .int .i64 0, .slice none 0 0]) := ⟨by have := heap_alloc_at (w.alloc (.cells #[.int .i64 t.k, .string t.s, .slice pa t.p.length pc, .int .i64 t.n, .slice ka t.ks.length kc] 25)) (.cells #[.int .i64 0, .string { data := #[] }, .slice none 0 0, .int .i64 0, .slice none 0 0] 25); rw [size_alloc] at this; exact this⟩
  have HB := hid hbb
  have HPp := hid hPp
  have HPk : Hid (PtAtL w (· < w0) n (.slice ka t.ks.length kc) t.ks) := hPk
  have hs2 : ((w.alloc (.cells #[.int .i64 t.k, .string t.s, .slice pa t.p.length pc, .int .i64 t.n, .slice ka t.ks.length kc] 25)).alloc (.cells #[.int .i64 0, .string { data := #[] }, .slice none 0 0, .int .i64 0, .slice none 0 0] 25)).heap.size = w.heap.size + 2 := by rw [size_alloc, size_alloc]
  rw [bareP_eq]
  by_cases h2 : t.k = 2
  · rw [if_pos h2]
    have t2 : (t.k == 2) = true := by simp [h2]
    clear x0 hbb hPp hPk hmp hcnt hlk hc ih h2
    go_enter Tryz.func6, Tryz.ntmps6
    go_wp2
    refine bodyPost_ret (v := .agg #[.int .i64 1, .string ⟨#[]⟩, .slice none 0 0, .int .i64 0, .slice ka t.ks.length kc]) (by rw [results_cell1 (fn := Tryz.f6) (p := 2) (ty := 25) (by kernel_rfl)]; simp [go_sem]) rfl ?_
    have hbz := bl_alloc (bl_alloc (Below.refl w.heap.size w) (.cells #[.int .i64 t.k, .string t.s, .slice pa t.p.length pc, .int .i64 t.n, .slice ka t.ks.length kc] 25)) (.cells #[.int .i64 1, .string { data := #[] }, .slice none 0 0, .int .i64 0, .slice ka t.ks.length kc] 25)
    refine ⟨n + 1, _, _, _, _, _, _, _, _, _, rfl, ?_, hbz⟩
    refine ⟨_, _, rfl, GRow.empty _ _, ?_⟩
    exact GRow.move HPk.out (Keeps.of_below hbz) (fun b hb => .inl hb) fun _ _ h => PtAt.move (Keeps.of_below hbz) (fun b hb => .inl hb) h
  · rw [if_neg h2]
    have t2 : (t.k == 2) = false := by simp [h2]
    have HI : Hid (BareOf w0 n) := ih
    have HC := hid (show Pt.cntL t.ks ≤ 1048576 by omega)
    have hlen : ∀ k, k < t.ks.length → k ≤ 1048576 := fun k hk => by omega
    clear x0 hbb hPp hPk hmp hcnt hlk hc ih h2
    go_enter Tryz.func6, Tryz.ntmps6
    go_wp2
    have hb3 := bl_alloc (bl_alloc (bl_alloc (Below.refl w.heap.size w) (.cells #[.int .i64 t.k, .string t.s, .slice pa t.p.length pc, .int .i64 t.n, .slice ka t.ks.length kc] 25)) (.cells #[.int .i64 0, .string { data := #[] }, .slice none 0 0, .int .i64 0, .slice none 0 0] 25)) (.cells #[.int .i64 t.k, .string t.s, .slice pa t.p.length pc, .int .i64 t.n, .slice none 0 0] 25)
    have HK0 : Hid (Kb w0 (w.heap.size + 2) (w.heap.size + 3) t.k t.n t.s (.slice pa t.p.length pc) [] 0 (.slice none 0 0) [] (((w.alloc (.cells #[.int .i64 t.k, .string t.s, .slice pa t.p.length pc, .int .i64 t.n, .slice ka t.ks.length kc] 25)).alloc (.cells #[.int .i64 0, .string { data := #[] }, .slice none 0 0, .int .i64 0, .slice none 0 0] 25)).alloc (.cells #[.int .i64 t.k, .string t.s, .slice pa t.p.length pc, .int .i64 t.n, .slice none 0 0] 25))) := ⟨by omega, by omega, by rw [size_alloc, hs2]; omega, ⟨by have := heap_alloc_at ((w.alloc (.cells #[.int .i64 t.k, .string t.s, .slice pa t.p.length pc, .int .i64 t.n, .slice ka t.ks.length kc] 25)).alloc (.cells #[.int .i64 0, .string { data := #[] }, .slice none 0 0, .int .i64 0, .slice none 0 0] 25)) (.cells #[.int .i64 t.k, .string t.s, .slice pa t.p.length pc, .int .i64 t.n, .slice none 0 0] 25); rw [hs2] at this; exact this⟩, World.ownsRow_nil _ _ _ _, fun i y hy => by simp at hy⟩
    have X0 := hid (X0.out.stays (bl_alloc (Below.refl _ _) (.cells #[.int .i64 t.k, .string t.s, .slice pa t.p.length pc, .int .i64 t.n, .slice none 0 0] 25)))
    have X1 := hid (X1.out.stays (bl_alloc (Below.refl _ _) (.cells #[.int .i64 t.k, .string t.s, .slice pa t.p.length pc, .int .i64 t.n, .slice none 0 0] 25)))
    have HB := hid hb3
    clear hb3
    generalize (((w.alloc (.cells #[.int .i64 t.k, .string t.s, .slice pa t.p.length pc, .int .i64 t.n, .slice ka t.ks.length kc] 25)).alloc (.cells #[.int .i64 0, .string { data := #[] }, .slice none 0 0, .int .i64 0, .slice none 0 0] 25)).alloc (.cells #[.int .i64 t.k, .string t.s, .slice pa t.p.length pc, .int .i64 t.n, .slice none 0 0] 25)) = w3 at X0 X1 HB HK0 ⊢
    clear hs2
    go_loopw [4] (fun v wr => ∃ i : Nat, v = .int .i64 i ∧ i ≤ t.ks.length ∧ Hid ((∃ N ov xs, Kb w0 (w.heap.size + 2) (w.heap.size + 3) t.k t.n t.s (.slice pa t.p.length pc) ((t.ks.take i).map bareP) N ov xs wr) ∧ Below w.heap.size w wr ∧ Arr wr w.heap.size 25 [.int .i64 t.k, .string t.s, .slice pa t.p.length pc, .int .i64 t.n, .slice ka t.ks.length kc] ∧ Arr wr (w.heap.size + 1) 25 [.int .i64 0, .string { data := #[] }, .slice none 0 0, .int .i64 0, .slice none 0 0])) (fun v _ => t.ks.length - (intOf v).toNat)
    case atStart => exact ⟨0, rfl, Nat.zero_le _, ⟨0, _, _, HK0.out⟩, HB.out, X0.out, X1.out⟩
    case round =>
      obtain ⟨i, rfl, hi, hR⟩ := hrel
      obtain ⟨⟨N, ov, xs, hK⟩, hbw, hx0, hx1⟩ := hR.out
      obtain ⟨ys, hys⟩ : ∃ ys, ys = (t.ks.take i).map bareP := ⟨_, rfl⟩
      rw [← hys] at hK
      have hyl : ys.length = i := by rw [hys, List.length_map, List.length_take]; omega
      obtain ⟨oa, oc, rfl⟩ := own_form hK.own
      have y0 := hx0.cell
      by_cases hlt : i < t.ks.length
      · obtain ⟨x, hx⟩ : ∃ x, t.ks[i]? = some x := ⟨_, List.getElem?_eq_getElem hlt⟩
        obtain ⟨b, o, rfl, hb, es, g1, g2, g3⟩ := HPk.out.elem hx
        obtain ⟨xa, xc, ya, yc, rfl, -, -⟩ := g3.form
        have hdr : Below wr.heap.size wr wr.drew := (Below.refl _ _).drew
        have hbd : Below w.heap.size w wr.drew := hbw.drew
        have HK := hid (hK.stays hdr)
        have hQ := hid (HI.out wr.drew _ x (by have := hbd.size; omega) (g3.below hbd) (by have := HC.out; have := Pt.cnt_mem (List.mem_of_getElem? hx); omega))
        have hln : ys.length ≤ 1048576 := by have := hlen i hlt; omega
        have hcl : ∀ j u, [Value.int .i64 x.k, .string x.s, .slice xa x.p.length xc, .int .i64 x.n, .slice ya x.ks.length yc][j]? = some u → wr.drew.cell? ⟨b, o + i * 5 + j, none⟩ = some u := fun j u hu => by
          have := g2 j u hu
          exact (hbd.cell (World.block_lt_of_cell? _ _ this)).trans this
        have s0 : wr.drew.cell? ⟨w.heap.size, 4, none⟩ = some (.slice (some ⟨b, o, none⟩) t.ks.length kc) ∧ wr.drew.cell? ⟨b, o + i * 5, none⟩ = some (.int .i64 x.k) ∧ wr.drew.cell? ⟨b, o + i * 5 + 1, none⟩ = some (.string x.s) ∧ wr.drew.cell? ⟨b, o + i * 5 + 2, none⟩ = some (.slice xa x.p.length xc) ∧ wr.drew.cell? ⟨b, o + i * 5 + 3, none⟩ = some (.int .i64 x.n) ∧ wr.drew.cell? ⟨b, o + i * 5 + 4, none⟩ = some (.slice ya x.ks.length yc) := ⟨(hx0.stays hdr).cell 4, by simpa using hcl 0 _ rfl, hcl 1 _ rfl, hcl 2 _ rfl, hcl 3 _ rfl, hcl 4 _ rfl⟩
        have hkb := hid (fun (wz : World) (he : ∀ q, q < w.heap.size + 3 → q ≠ w.heap.size + 2 → wz.heap[q]? = wr.drew.heap[q]?) => bareKeep (S0 := w.heap.size + 3) (OB := w.heap.size + 2) (w := w) he (by omega) (by omega) (by omega) (by omega) s0)
        have hkp := hid (fun (wz : World) (he : Below wr.drew.heap.size wr.drew wz) => hkb.out wz (fun q hq _ => he.block q (by have := HK.out.le; omega)))
        have l0 : wr.drew.cell? ⟨w.heap.size + 2, 4, none⟩ = some (.slice oa ys.length oc) := HK.out.ob.cell 4
        have HX := hid (And.intro hbd (And.intro (hx0.stays hdr) (hx1.stays hdr)))
        have HY : Hid ((t.ks.take (i + 1)).map bareP = ys ++ [bareP x]) := by
          have : t.ks.take (i + 1) = t.ks.take i ++ [x] := by rw [List.take_add_one, hx]; rfl
          show _ = _
          rw [this, List.map_append, hys]; rfl
        have HYL := hid hyl
        clear hR hK hbw hx0 hx1 hys hyl g1 g2 g3 hx hdr hbd hcl
        go_wp2
        refine wp_region_held_drew (S := fun wz => wz.cell? ⟨w.heap.size, 4, none⟩ = some (.slice (some ⟨b, o, none⟩) t.ks.length kc) ∧ wz.cell? ⟨b, o + i * 5, none⟩ = some (.int .i64 x.k) ∧ wz.cell? ⟨b, o + i * 5 + 1, none⟩ = some (.string x.s) ∧ wz.cell? ⟨b, o + i * 5 + 2, none⟩ = some (.slice xa x.p.length xc) ∧ wz.cell? ⟨b, o + i * 5 + 3, none⟩ = some (.int .i64 x.n) ∧ wz.cell? ⟨b, o + i * 5 + 4, none⟩ = some (.slice ya x.ks.length yc)) (by kernel_rfl) (s0) (fun hS => ?_)
        refine wpAnyH_take (i := 0) (v := ?_) rfl (by kernel_rfl) (by kernel_rfl) (by kernel_rfl) (fun _ _ _ h => h) (Or.inl ⟨by rfl, ?_⟩) hS ?_
        rotate_left
        · intro wz hz; go_simp; try with_reducible rfl
        try simp only [Act.put, List.setIfInBounds_toArray, List.set_cons_zero, List.set_cons_succ, List.getElem_toArray, List.getElem_cons_succ, List.getElem_cons_zero]
        refine wpAnyH_take (i := 2) (v := ?_) rfl (by kernel_rfl) (by kernel_rfl) (by kernel_rfl) (fun _ _ _ h => h) (Or.inl ⟨by rfl, ?_⟩) hS ?_
        rotate_left
        · intro wz hz; go_simp; try with_reducible rfl
        try simp only [Act.put, List.setIfInBounds_toArray, List.set_cons_zero, List.set_cons_succ, List.getElem_toArray, List.getElem_cons_succ, List.getElem_cons_zero]
        refine wpAnyH_take (i := 3) (v := ?_) rfl (by kernel_rfl) (by kernel_rfl) (by kernel_rfl) (fun _ _ _ h => h) (Or.inl ⟨by rfl, ?_⟩) hS ?_
        rotate_left
        · intro wz hz; obtain ⟨yy0, yy1, yy2, yy3, yy4, yy5⟩ := hz; go_simp; try with_reducible rfl
        try simp only [Act.put, List.setIfInBounds_toArray, List.set_cons_zero, List.set_cons_succ, List.getElem_toArray, List.getElem_cons_succ, List.getElem_cons_zero]
        refine wpAnyH_take (i := 4) (v := ?_) rfl (by kernel_rfl) (by kernel_rfl) (by kernel_rfl) (fun _ _ _ h => h) (Or.inl ⟨by rfl, ?_⟩) hS ?_
        rotate_left
        · intro wz hz; go_simp; try with_reducible rfl
        try simp only [Act.put, List.setIfInBounds_toArray, List.set_cons_zero, List.set_cons_succ, List.getElem_toArray, List.getElem_cons_succ, List.getElem_cons_zero]
        refine wpAnyH_take (i := 5) (v := ?_) rfl (by kernel_rfl) (by kernel_rfl) (by kernel_rfl) (fun _ _ _ h => h) (Or.inl ⟨by rfl, ?_⟩) hS ?_
        rotate_left
        · intro wz hz; go_simp; try with_reducible rfl
        try simp only [Act.put, List.setIfInBounds_toArray, List.set_cons_zero, List.set_cons_succ, List.getElem_toArray, List.getElem_cons_succ, List.getElem_cons_zero]
        refine wpAnyH_take (i := 6) (v := ?_) rfl (by kernel_rfl) (by kernel_rfl) (by kernel_rfl) (fun _ _ _ h => h) (Or.inl ⟨by rfl, ?_⟩) hS ?_
        rotate_left
        · intro wz hz; obtain ⟨yy0, yy1, yy2, yy3, yy4, yy5⟩ := hz; go_simp; try with_reducible rfl
        try simp only [Act.put, List.setIfInBounds_toArray, List.set_cons_zero, List.set_cons_succ, List.getElem_toArray, List.getElem_cons_succ, List.getElem_cons_zero]
        refine wpAnyH_ready (rs := [1, 7]) (by kernel_rfl) (by simp) (AllReadyH.cons rfl (fun K hK => ?a1_1) (AllReadyH.cons rfl (fun K hK => ?a1_7) AllReadyH.nil))
        case' a1_1 =>
          go_simp
          refine hK.out _ _ (hS) (fun hSn => ?_)
          clear hK K hS
          have hS := hSn
          clear hSn
          try simp only [Act.put, List.setIfInBounds_toArray, List.set_cons_zero, List.set_cons_succ, List.getElem_toArray, List.getElem_cons_succ, List.getElem_cons_zero]
          refine wpAnyH_ready (rs := [7]) (by kernel_rfl) (by simp) (AllReadyH.cons rfl (fun K hK => ?a2_7) AllReadyH.nil)
          case' a2_7 =>
            go_simp
            refine hQ.out.mono ?_
            rintro e w1 ⟨n1, k1, s1, z1, p1, l1, c1, m1, d1, e1, rfl, t1, b1⟩
            obtain ⟨a2, c2, w2, hr, hA2, hb2, hK2, hF2⟩ := HK.out.app b1 t1 rfl hln
            have HK2 := hid hK2
            have HF2 := hid hF2
            have sc := hA2.cell
            have fz := hA2.frozen
            have l1 : w1.cell? ⟨w.heap.size + 2, 4, none⟩ = some (.slice oa ys.length oc) := (HK.out.ob.stays b1).cell 4
            have l2 : ∀ o, (w1.alloc o).cell? ⟨w.heap.size + 2, 4, none⟩ = some (.slice oa ys.length oc) := fun o => ((HK.out.ob.stays b1).stays (bl_alloc (Below.refl _ _) o)).cell 4
            have s8 := hkp.out _ b1
            have s8a := fun o => hkp.out _ (bl_alloc b1 o)
            have s9 := hkb.out _ hb2
            have s11 := hkb.out (w2.setCell ⟨w.heap.size + 2, 4, none⟩ (.slice a2 (ys.length + 1) c2)) (fun q hq hne => (Below.heap_setCell _ _ _ _ hne).trans (hb2 q hq hne))
            clear hA2 hb2 hK2 hF2 b1 t1
            refine hK.out _ _ (s8) (fun hSn => ?_)
            clear hK K hS
            have hS := hSn
            clear hSn
            try simp only [Act.put, List.setIfInBounds_toArray, List.set_cons_zero, List.set_cons_succ, List.getElem_toArray, List.getElem_cons_succ, List.getElem_cons_zero]
            refine wpAnyH_ready (rs := [8]) (by kernel_rfl) (by simp) (AllReadyH.cons rfl (fun K hK => ?a3_8) AllReadyH.nil)
            case' a3_8 =>
              go_simp
              refine hK.out _ _ (s8a _) (fun hSn => ?_)
              clear hK K hS
              have hS := hSn
              clear hSn
              try simp only [Act.put, List.setIfInBounds_toArray, List.set_cons_zero, List.set_cons_succ, List.getElem_toArray, List.getElem_cons_succ, List.getElem_cons_zero]
              refine wpAnyH_ready (rs := [9]) (by kernel_rfl) (by simp) (AllReadyH.cons rfl (fun K hK => ?a4_9) AllReadyH.nil)
              case' a4_9 =>
                refine step_app_eq rfl _ _ _ rfl _ _ rfl rfl _ _ hr ?_
                refine hK.out _ _ (s9) (fun hSn => ?_)
                clear hK K hS
                have hS := hSn
                clear hSn
                try simp only [Act.put, List.setIfInBounds_toArray, List.set_cons_zero, List.set_cons_succ, List.getElem_toArray, List.getElem_cons_succ, List.getElem_cons_zero]
                refine wpAnyH_take (i := 10) (v := ?_) rfl (by kernel_rfl) (by kernel_rfl) (by kernel_rfl) (fun _ _ _ h => h) (Or.inl ⟨by rfl, ?_⟩) hS ?_
                rotate_left
                · intro wz hz; go_simp; try with_reducible rfl
                try simp only [Act.put, List.setIfInBounds_toArray, List.set_cons_zero, List.set_cons_succ, List.getElem_toArray, List.getElem_cons_succ, List.getElem_cons_zero]
                refine wpAnyH_ready (rs := [11]) (by kernel_rfl) (by simp) (AllReadyH.cons rfl (fun K hK => ?a5_11) AllReadyH.nil)
                case' a5_11 =>
                  go_simp
                  refine hK.out _ _ (s11) (fun hSn => ?_)
                  clear hK K hS
                  have hS := hSn
                  clear hSn
                  try simp only [Act.put, List.setIfInBounds_toArray, List.set_cons_zero, List.set_cons_succ, List.getElem_toArray, List.getElem_cons_succ, List.getElem_cons_zero]
                  refine wpAnyH_done (by kernel_rfl) ?_ _
        case' a1_7 =>
          go_simp
          refine hQ.out.mono ?_
          rintro e w1 ⟨n1, k1, s1, z1, p1, l1, c1, m1, d1, e1, rfl, t1, b1⟩
          obtain ⟨a2, c2, w2, hr, hA2, hb2, hK2, hF2⟩ := HK.out.app b1 t1 rfl hln
          have HK2 := hid hK2
          have HF2 := hid hF2
          have sc := hA2.cell
          have fz := hA2.frozen
          have l1 : w1.cell? ⟨w.heap.size + 2, 4, none⟩ = some (.slice oa ys.length oc) := (HK.out.ob.stays b1).cell 4
          have l2 : ∀ o, (w1.alloc o).cell? ⟨w.heap.size + 2, 4, none⟩ = some (.slice oa ys.length oc) := fun o => ((HK.out.ob.stays b1).stays (bl_alloc (Below.refl _ _) o)).cell 4
          have s8 := hkp.out _ b1
          have s8a := fun o => hkp.out _ (bl_alloc b1 o)
          have s9 := hkb.out _ hb2
          have s11 := hkb.out (w2.setCell ⟨w.heap.size + 2, 4, none⟩ (.slice a2 (ys.length + 1) c2)) (fun q hq hne => (Below.heap_setCell _ _ _ _ hne).trans (hb2 q hq hne))
          clear hA2 hb2 hK2 hF2 b1 t1
          refine hK.out _ _ (s8) (fun hSn => ?_)
          clear hK K hS
          have hS := hSn
          clear hSn
          try simp only [Act.put, List.setIfInBounds_toArray, List.set_cons_zero, List.set_cons_succ, List.getElem_toArray, List.getElem_cons_succ, List.getElem_cons_zero]
          refine wpAnyH_ready (rs := [1, 8]) (by kernel_rfl) (by simp) (AllReadyH.cons rfl (fun K hK => ?a6_1) (AllReadyH.cons rfl (fun K hK => ?a6_8) AllReadyH.nil))
          case' a6_1 =>
            go_simp
            refine hK.out _ _ (hS) (fun hSn => ?_)
            clear hK K hS
            have hS := hSn
            clear hSn
            try simp only [Act.put, List.setIfInBounds_toArray, List.set_cons_zero, List.set_cons_succ, List.getElem_toArray, List.getElem_cons_succ, List.getElem_cons_zero]
            refine wpAnyH_ready (rs := [8]) (by kernel_rfl) (by simp) (AllReadyH.cons rfl (fun K hK => ?a7_8) AllReadyH.nil)
            case' a7_8 =>
              go_simp
              refine hK.out _ _ (s8a _) (fun hSn => ?_)
              clear hK K hS
              have hS := hSn
              clear hSn
              try simp only [Act.put, List.setIfInBounds_toArray, List.set_cons_zero, List.set_cons_succ, List.getElem_toArray, List.getElem_cons_succ, List.getElem_cons_zero]
              refine wpAnyH_ready (rs := [9]) (by kernel_rfl) (by simp) (AllReadyH.cons rfl (fun K hK => ?a8_9) AllReadyH.nil)
              case' a8_9 =>
                refine step_app_eq rfl _ _ _ rfl _ _ rfl rfl _ _ hr ?_
                refine hK.out _ _ (s9) (fun hSn => ?_)
                clear hK K hS
                have hS := hSn
                clear hSn
                try simp only [Act.put, List.setIfInBounds_toArray, List.set_cons_zero, List.set_cons_succ, List.getElem_toArray, List.getElem_cons_succ, List.getElem_cons_zero]
                refine wpAnyH_take (i := 10) (v := ?_) rfl (by kernel_rfl) (by kernel_rfl) (by kernel_rfl) (fun _ _ _ h => h) (Or.inl ⟨by rfl, ?_⟩) hS ?_
                rotate_left
                · intro wz hz; go_simp; try with_reducible rfl
                try simp only [Act.put, List.setIfInBounds_toArray, List.set_cons_zero, List.set_cons_succ, List.getElem_toArray, List.getElem_cons_succ, List.getElem_cons_zero]
                refine wpAnyH_ready (rs := [11]) (by kernel_rfl) (by simp) (AllReadyH.cons rfl (fun K hK => ?a9_11) AllReadyH.nil)
                case' a9_11 =>
                  go_simp
                  refine hK.out _ _ (s11) (fun hSn => ?_)
                  clear hK K hS
                  have hS := hSn
                  clear hSn
                  try simp only [Act.put, List.setIfInBounds_toArray, List.set_cons_zero, List.set_cons_succ, List.getElem_toArray, List.getElem_cons_succ, List.getElem_cons_zero]
                  refine wpAnyH_done (by kernel_rfl) ?_ _
          case' a6_8 =>
            go_simp
            refine hK.out _ _ (s8a _) (fun hSn => ?_)
            clear hK K hS
            have hS := hSn
            clear hSn
            try simp only [Act.put, List.setIfInBounds_toArray, List.set_cons_zero, List.set_cons_succ, List.getElem_toArray, List.getElem_cons_succ, List.getElem_cons_zero]
            refine wpAnyH_ready (rs := [1]) (by kernel_rfl) (by simp) (AllReadyH.cons rfl (fun K hK => ?a10_1) AllReadyH.nil)
            case' a10_1 =>
              go_simp
              refine hK.out _ _ (hS) (fun hSn => ?_)
              clear hK K hS
              have hS := hSn
              clear hSn
              try simp only [Act.put, List.setIfInBounds_toArray, List.set_cons_zero, List.set_cons_succ, List.getElem_toArray, List.getElem_cons_succ, List.getElem_cons_zero]
              refine wpAnyH_ready (rs := [9]) (by kernel_rfl) (by simp) (AllReadyH.cons rfl (fun K hK => ?a11_9) AllReadyH.nil)
              case' a11_9 =>
                refine step_app_eq rfl _ _ _ rfl _ _ rfl rfl _ _ hr ?_
                refine hK.out _ _ (s9) (fun hSn => ?_)
                clear hK K hS
                have hS := hSn
                clear hSn
                try simp only [Act.put, List.setIfInBounds_toArray, List.set_cons_zero, List.set_cons_succ, List.getElem_toArray, List.getElem_cons_succ, List.getElem_cons_zero]
                refine wpAnyH_take (i := 10) (v := ?_) rfl (by kernel_rfl) (by kernel_rfl) (by kernel_rfl) (fun _ _ _ h => h) (Or.inl ⟨by rfl, ?_⟩) hS ?_
                rotate_left
                · intro wz hz; go_simp; try with_reducible rfl
                try simp only [Act.put, List.setIfInBounds_toArray, List.set_cons_zero, List.set_cons_succ, List.getElem_toArray, List.getElem_cons_succ, List.getElem_cons_zero]
                refine wpAnyH_ready (rs := [11]) (by kernel_rfl) (by simp) (AllReadyH.cons rfl (fun K hK => ?a12_11) AllReadyH.nil)
                case' a12_11 =>
                  go_simp
                  refine hK.out _ _ (s11) (fun hSn => ?_)
                  clear hK K hS
                  have hS := hSn
                  clear hSn
                  try simp only [Act.put, List.setIfInBounds_toArray, List.set_cons_zero, List.set_cons_succ, List.getElem_toArray, List.getElem_cons_succ, List.getElem_cons_zero]
                  refine wpAnyH_done (by kernel_rfl) ?_ _
        all_goals (
          clear l1 l2 s8 s8a s9 s11 hr sc fz hS
          go_wp2
          go_roundw
          case rel =>
            refine ⟨i + 1, by go_num, by omega, ?_⟩
            have hF := HF2.out
            exact ⟨⟨_, _, _, by rw [HY.out]; exact HK2.out⟩, HX.out.1.trans (hF.mono (by omega)), HX.out.2.1.under hF (by omega), HX.out.2.2.under hF (by omega)⟩
          case measure => simp [intOf]; omega)
      · obtain rfl : i = t.ks.length := by omega
        rw [List.take_length] at hys
        have HK := hid hK
        have HX := hid (And.intro hbw (And.intro hx0 hx1))
        have z1 := hx1.cell
        have f1 := hx1.frozen
        have z2 := hK.ob.cell
        have n12 : (w.heap.size + 1) ≠ w.heap.size + 2 := by omega
        have HYS := hid hys
        clear hR hK hbw hx0 hx1 hyl hys
        go_wp2
        refine bodyPost_ret (v := .agg #[.int .i64 t.k, .string t.s, .slice pa t.p.length pc, .int .i64 t.n, .slice oa ys.length oc]) (by rw [results_cell1 (fn := Tryz.f6) (p := 2) (ty := 25) (by kernel_rfl)]; simp [go_sem, z1, f1, z2]) rfl ?_
        have hm : PtAtL wr (fun b => b < w0 ∨ w.heap.size + 3 ≤ b) N (.slice oa ys.length oc) ys := HK.out.fin
        have hkk : Keeps (fun b => b < w0 ∨ w.heap.size + 3 ≤ b) wr _ := keeps_cells5 (K := fun b => b < w0 ∨ w.heap.size + 3 ≤ b) (B := w.heap.size + 1) (a' := .int .i64 t.k) (b' := .string t.s) (c' := .slice pa t.p.length pc) (d' := .int .i64 t.n) (e' := .slice oa ys.length oc) (by omega)
        refine ⟨N + 1, _, _, _, _, _, _, _, _, _, rfl, ⟨_, _, rfl, ?_, ?_⟩, below_cells5 HX.out.1 (by omega)⟩
        · exact GRow.move HPp.out ((Keeps.of_below HX.out.1).trans (keeps_cells5 (K := (· < w0)) (by omega))) (fun b hb => .inl hb) fun _ _ h => h
        · have h9 := PtAtL.move (K' := fun b => b < w0 ∨ w.heap.size ≤ b) hm hkk (fun b hb => by omega)
          rw [HYS.out] at h9
          rw [HYS.out]
          exact h9
theorem bare_any (w0 : Nat) : ∀ n, BareOf w0 n
  | 0 => fun w vs t _ h => h.elim
  | n + 1 => bare_step w0 n (bare_any w0 n)
end Go.Proofs.YtjodgnkhociaaaaGreat
