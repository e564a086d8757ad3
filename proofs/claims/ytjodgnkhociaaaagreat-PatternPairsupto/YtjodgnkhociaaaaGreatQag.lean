/- The map of places. itself, metasFrom, add, becomes; the places' scheme. numbers, Stamps, Metas, Gens. slices.IndexFunc, slices.DeleteFunc over ints, with a function that may make memory. without. Generalise, Canonical. withKids: the pairs that wait. -/
import Derived.Maps.OwnSet
import Derived.DeepKeys4
import Derived.Lib.SliceRun
import Derived.Laws.IdiomCopy
import Derived.Deep.RegionHeld
import Derived.Test.YtjodgnkhociaaaaGreatQad
import Derived.Test.YtjodgnkhociaaaaGreatQaf
import Derived.Test.YtjodgnkhociaaaaGreatQac
import Derived.Test.YtjodgnkhociaaaaGreatQab
namespace Go.Proofs.YtjodgnkhociaaaaGreat
open Go.RowKit
set_option linter.unusedVariables false
set_option linter.unusedSimpArgs false

theorem laid12 : laidOutB Tryz.prog = true := by kernel_rfl
def pv (k n : Int) : Value := .agg #[.int .i64 k, .int .i64 n]
theorem wf64 {x : Int} (hx : R64 x) : (Lit.int .i64 x).wf = true := by obtain ⟨a, b⟩ := hx; simp [Lit.wf, IntKind.min, IntKind.max, IntKind.signed, IntKind.bits]; omega
theorem int_cells : Tryz.prog.cellsOf 3 = 1 := by kernel_rfl
theorem lit_inj {a b : Int} {p q : List MemPlace} (h : ((DataW.lit (Lit.int .i64 a) : DataW Unit), p) = (.lit (.int .i64 b), q)) : a = b := by
  have h := (Prod.mk.inj h).1
  injection h with h
  injection h
def kl (k n : Int) : Lit := .string (keyBytes [.int .i64 k, .int .i64 n])
theorem kl_lit (k n : Int) : WideAt.IsKeyLit (kl k n) := by simp [kl, WideAt.IsKeyLit]
theorem zero_int12 (w : World) : (zeroValue 3).run Tryz.prog w = .ok (.int .i64 0) w := by kernel_rfl
end Go.Proofs.YtjodgnkhociaaaaGreat

namespace Go.Proofs.YtjodgnkhociaaaaGreat
open Go.RowKit
set_option linter.unusedVariables false
set_option linter.unusedSimpArgs false

theorem wpList_len1 {P : Program} {ops : Array Oper} {rest : List Oper} {o : Oper} {a : Act} {w : World} {Q : Exit → Act → World → Prop} (hgd : o.guard = none) (s : Operand) (t : TypeId)
    (ho : o.op = .call { callee := .builtin .len, args := #[s], argTypes := #[t] }) (v : Value) (hs : a.eval s = v) (v' : Value)
    (hr : (Builtin.len_ #[t] o.type #[v]).run P w = .ok v' w) (h : wpList P ops Q rest (a.put o.dst v') w) : wpList P ops Q (o :: rest) a w := by
  refine wpList_plain hgd fun _ hK => ?_
  unfold Oper.wp execOp
  simp only [ho, resolve, invoke, builtin, Sem.run_bind, Sem.run_pure, Result.andThen_ok, List.map_toArray, List.map_cons, List.map_nil, hs, hr]
  exact hK _ _ h
theorem wpList_mapUp {P : Program} {ops : Array Oper} {rest : List Oper} {o : Oper} {a : Act} {w : World} {Q : Exit → Act → World → Prop} (hgd : o.guard = none) (m x v : Operand) (t : TypeId) (hop : o.op = .mapUpdate t m x v)
    (vm vx vv : Value) (hm : a.eval m = vm) (hx : a.eval x = vx) (hv : a.eval v = vv) (w' : World) (hr : (Instr.mapUpdate t vm vx vv).run P w = .ok () w') (h : wpList P ops Q rest (a.put o.dst undef) w') : wpList P ops Q (o :: rest) a w := by
  refine wpList_plain hgd fun _ hK => ?_
  unfold Oper.wp
  simp [execOp, hop, hm, hx, hv, hr, Result.andThen]
  exact hK _ _ h
theorem wpList_look {P : Program} {ops : Array Oper} {rest : List Oper} {o : Oper} {a : Act} {w : World} {Q : Exit → Act → World → Prop} (hgd : o.guard = none) (m x : Operand) (t : TypeId) (c : Bool) (hop : o.op = .lookup t m x c)
    (vm vx v' : Value) (hm : a.eval m = vm) (hx : a.eval x = vx) (hr : (Instr.lookup t vm vx c).run P w = .ok v' w) (h : wpList P ops Q rest (a.put o.dst v') w) : wpList P ops Q (o :: rest) a w := by
  refine wpList_plain hgd fun _ hK => ?_
  unfold Oper.wp
  simp [execOp, hop, hm, hx, hr, Result.andThen]
  exact hK _ _ h

/-- What places become. -/
def plf (L : List (Int × Int)) (k n : Int) : Int × Int := if (k, n) ∈ L then (8, (L.idxOf (k, n) : Nat)) else (k, n)
/-- The numbers from next on in place of TGen. -/
def mff (next k n : Int) : Int × Int := if k = 8 then (7, wrap64 (next + n)) else (k, n)
theorem wrap64_r (x : Int) : R64 (wrap64 x) := by unfold R64 wrap64; omega
theorem Ls.kept {w w' : World} {v : Value} {l : List Int} {C : Nat} {K : Nat → Prop} (h : Ls w K v l) (hg : w.grownBy w' (some C)) (hC : ∀ o : Nat, w.cell? ⟨C, o, none⟩ = none) : Ls w' K v l := by
  rcases h with ⟨b, o, c, hv, hb, hc, hm, hl⟩ | h
  · refine .inl ⟨b, o, c, hv, hb, hc, hm, fun j x hx => ?_⟩
    have h1 := hl j x hx
    have hne : b ≠ C := fun e => by rw [e, hC] at h1; cases h1
    obtain ⟨g1, g2, g3, g4, g5⟩ := hg
    rw [← h1]
    exact World.cell?_of_block (w := w) (g5 b (World.block_lt_of_cell? _ _ h1) (fun e => hne (by injection e)))
  · exact .inr h
theorem grown_tr {a b c : World} {C : Nat} (h : a.grownBy b (some C)) (k : b.grownBy c (some C)) : a.grownBy c (some C) := by
  obtain ⟨h1, h2, h3, h4, h5⟩ := h
  obtain ⟨k1, k2, k3, k4, k5⟩ := k
  exact ⟨k1.trans h1, k2.trans h2, k3.trans h3, Nat.le_trans h4 k4, fun j hj hne => (k5 j (Nat.lt_of_lt_of_le hj h4) hne).trans (h5 j hj hne)⟩
theorem grown_refl (a : World) (C : Nat) : a.grownBy a (some C) := ⟨rfl, rfl, rfl, Nat.le_refl _, fun _ _ _ => rfl⟩
def pls (kind : Int) (l : List Int) : List (Int × Int) := l.map fun n => (kind, n)

end Go.Proofs.YtjodgnkhociaaaaGreat

namespace Go.Proofs.YtjodgnkhociaaaaGreat
open Go.RowKit
set_option linter.unusedVariables false
set_option linter.unusedSimpArgs false

def IGth (M C : Nat) (kind : Int) (s : List Int) (own : Nat → Prop) (w : World) : Prop := ∃ lv, Gth M C kind lv s w ∧ own = Og M C lv
theorem IGth.steady (M C : Nat) (kind : Int) : Steady (IGth M C kind) := by
  refine ⟨fun s own w w' ⟨lv, h, e⟩ hb => ⟨lv, h.stays hb, e⟩, fun s own w b ⟨lv, h, e⟩ ho => ?_⟩
  rw [e] at ho
  rcases ho with rfl | rfl | ho
  · exact h.b.lt
  · exact Nat.lt_trans h.lt h.b.lt
  · exact (h.own.lt b ho).2
theorem fTake_len (kind : Int) (s : List Int) (t : Tp) : (Tp.fTake kind s t).1.length ≤ s.length + 1 := by
  unfold Tp.fTake Tp.ins
  simp only
  split
  · split
    · omega
    · simp
  · omega
theorem take_see (M C : Nat) (kind : Int) (o0 : Nat → Prop) (w0 : World) (n : Nat) : SeeOfB List.length 1048576 173 #[.pointer (some ⟨M, 0, none⟩)] (Tp.fTake kind) (IGth M C kind) o0 w0 n := by
  intro w own s vs t hI hE hT hs
  obtain ⟨lv, hG, rfl⟩ := hI
  cases n with
  | zero => exact hT.elim
  | succ n =>
  obtain ⟨v, rfl, -, hn, -⟩ := hT.open_
  refine (take_any M C kind lv s w t.k t.n v hG hn hs).mono ?_
  rintro e w' ⟨rfl, lv', h1, h2⟩
  exact ⟨rfl, _, ⟨lv', h1, rfl⟩, h2⟩
theorem enters_take : Enters 173 := enters_of Tryz.func173 (by kernel_rfl) rfl
theorem gth_new (w : World) (kind : Int) (o : Obj) : Gth (w.heap.size + 1 + 1) (w.heap.size + 1) kind (.slice none 0 0) [] (((w.alloc o).alloc (.map #[] 0)).alloc (.cells #[.int .i64 kind, .slice none 0 0, .map (some (w.heap.size + 1))] 334)) := by
  refine ⟨⟨?_⟩, World.ownsRow_nil _ _ _ _, ?_, Nat.lt_succ_self _⟩
  · have := heap_alloc_at ((w.alloc o).alloc (.map #[] 0)) (.cells #[.int .i64 kind, .slice none 0 0, .map (some (w.heap.size + 1))] 334)
    rw [size_alloc, size_alloc] at this
    exact this
  · have := told_new (w.alloc o)
    rw [size_alloc] at this
    exact this.stays (bl_alloc (Below.refl _ _) _)

set_option maxHeartbeats 1000000 in
set_option maxRecDepth 100000 in
theorem numbers_any (w : World) (n : Nat) (vs : List Value) (t : Tp) (kind : Int) (hT : TAt w Any n vs t) (hc : t.cnt ≤ 1048576) : Calls Tryz.prog 161 #[.agg vs.toArray, .int .i64 kind] w fun e w' => ∃ v, e = .returned v ∧ Ls w' Any v (Tp.found kind t []) ∧ Below w.heap.size w w' := by
  have hq : Hid (∀ o, Calls Tryz.prog 172 #[.agg vs.toArray, .func (.func 173) #[.pointer (some ⟨w.heap.size + 1 + 1, 0, none⟩)] #[]] (((w.alloc o).alloc (.map #[] 0)).alloc (.cells #[.int .i64 kind, .slice none 0 0, .map (some (w.heap.size + 1))] 334)) fun e w' => e = .returned (.bool true) ∧ ∃ p c, Gth (w.heap.size + 1 + 1) (w.heap.size + 1) kind (.slice p (Tp.found kind t []).length c) (Tp.found kind t []) w' ∧ Below w.heap.size w w') := by
    intro o
    have hb : Below w.heap.size w (((w.alloc o).alloc (.map #[] 0)).alloc (.cells #[.int .i64 kind, .slice none 0 0, .map (some (w.heap.size + 1))] 334)) := bl_alloc (bl_alloc (bl_alloc (Below.refl _ _) _) _) _
    have hT1 : TAt (((w.alloc o).alloc (.map #[] 0)).alloc (.cells #[.int .i64 kind, .slice none 0 0, .map (some (w.heap.size + 1))] 334)) (fun b => ¬ Og (w.heap.size + 1 + 1) (w.heap.size + 1) (.slice none 0 0) b) n vs t := (TAt.old hT).move (Keeps.of_below hb) fun b h ho => by
      rcases ho with ho | ho | ho
      · omega
      · omega
      · cases ho
    refine (walk_anyB List.length 1048576 _ _ (Tp.fTake kind) (IGth (w.heap.size + 1 + 1) (w.heap.size + 1) kind) _ _ (fTake_len kind) (IGth.steady _ _ kind) enters_take (take_see _ _ kind _ _) n _ _ [] vs t ⟨_, gth_new w kind o, rfl⟩ (Ev.refl _ _) (TAt.oldK hT1) (by rw [List.length_nil]; omega)).mono ?_
    rintro e w' ⟨rfl, own', ⟨lv, hG, rfl⟩, hE⟩
    rw [Tp.walk_take] at hG ⊢
    obtain ⟨p, c, rfl⟩ := own_form hG.own
    refine ⟨rfl, p, c, hG, hb.trans (hE.below (by simp; omega) (fun b hb => ?_))⟩
    rcases hb with hb | hb | hb
    · omega
    · omega
    · cases hb
  obtain ⟨a, c, rfl⟩ := hT.form
  clear hT hc
  have hmm := @run_makeMap Tryz.prog
  go_enter Tryz.func161, Tryz.ntmps161
  go_wp2_with (go_at_call 172; refine (hq.out _).mono ?_; rintro e w2 ⟨rfl, p2, c2, hG2, hb2⟩; have HG : Hid (Gth _ _ _ _ _ w2) := hG2; have k1 := hG2.b.cell; clear hG2)
  go_ret
  exact ⟨_, rfl, Ls.of_own HG.out.own, hb2⟩

set_option maxRecDepth 100000 in
theorem Metas_any (w : World) (n : Nat) (vs : List Value) (t : Tp) (hT : TAt w Any n vs t) (hc : t.cnt ≤ 1048576) : Calls Tryz.prog 157 #[.agg vs.toArray] w fun e w' => ∃ v, e = .returned v ∧ Ls w' Any v (Tp.found 7 t []) ∧ Below w.heap.size w w' := by
  have hq : Hid (∀ o, Calls Tryz.prog 161 #[.agg vs.toArray, .int .i64 7] (w.alloc o) fun e w' => ∃ v, e = .returned v ∧ Ls w' Any v (Tp.found 7 t []) ∧ Below w.heap.size w w') := fun o => (numbers_any _ n vs t 7 (hT.below (bl_alloc (Below.refl _ _) _)) hc).mono fun e w' ⟨v, h1, h2, h3⟩ => ⟨v, h1, h2, bl_tr (bl_alloc (Below.refl _ _) _) h3⟩
  obtain ⟨a, c, rfl⟩ := hT.form
  clear hT hc
  go_enter Tryz.func157, Tryz.ntmps157
  go_wp2_with (go_at_call 161; refine (hq.out _).mono ?_; rintro e w2 ⟨v2, rfl, h2, hb2⟩; obtain ⟨p2, c2, rfl, -⟩ := h2.form; have H2 : Hid (Ls w2 Any _ _) := h2; clear h2)
  go_ret
  exact ⟨_, rfl, H2.out, hb2⟩

end Go.Proofs.YtjodgnkhociaaaaGreat

namespace Go.Proofs.YtjodgnkhociaaaaGreat
open Go.RowKit
set_option linter.unusedVariables false
set_option linter.unusedSimpArgs false

/-- A function that tells of a number, where J holds. -/
def DelOf (g : FuncId) (q : Value) (p : Int → Bool) (J : World → Prop) : Prop :=
  ∀ (wz : World) (x : Int), J wz → R64 x → Calls Tryz.prog g #[.int .i64 x, q] wz fun e w' => e = .returned (.bool (p x)) ∧ Below wz.heap.size wz w'
def Jst (J : World → Prop) : Prop := ∀ w w' : World, J w → Below w.heap.size w w' → J w'
def fst1 (p : Int → Bool) : List Int → Nat → Int
  | [], _ => -1
  | x :: r, i => if p x then i else fst1 p r (i + 1)
theorem fst1_at {p : Int → Bool} {l : List Int} {k : Nat} {x : Int} (hx : l[k]? = some x) : fst1 p (l.drop k) k = if p x then (k : Int) else fst1 p (l.drop (k + 1)) (k + 1) := by
  obtain ⟨h1, e1⟩ := List.getElem?_eq_some_iff.1 hx
  rw [List.drop_eq_getElem_cons h1, e1, fst1]

theorem fst1_spec (p : Int → Bool) : ∀ (l : List Int) (i : Nat), (fst1 p l i = -1 ∧ l.filter (fun x => !p x) = l) ∨ ∃ k : Nat, fst1 p l i = ((i + k : Nat) : Int) ∧ k < l.length ∧ (l.take (k + 1)).filter (fun x => !p x) = l.take k
  | [], i => .inl ⟨rfl, rfl⟩
  | x :: r, i => by
    rw [fst1]
    cases hp : p x with
    | true => exact .inr ⟨0, by simp, by simp, by simp [hp]⟩
    | false =>
      simp only [Bool.false_eq_true, if_false]
      rcases fst1_spec p r (i + 1) with ⟨h1, h2⟩ | ⟨k, h1, h2, h3⟩
      · exact .inl ⟨h1, by simp [hp, h2]⟩
      · exact .inr ⟨k + 1, by rw [h1]; congr 1; omega, by simpa using h2, by rw [List.take_succ_cons, List.filter_cons]; simp [hp, h3]⟩
structure Dl (l : List Int) (p : Int → Bool) (g base : Nat) (w : World) (i j : Nat) (cur : List Value) (wr : World) : Prop where
  bl : Below base w wr
  arr : Arr wr g 3 cur
  hi : ((l.take j).filter (fun x => !p x)).length = i
  lt : i < j
  hj : j ≤ l.length
  hcl : l.length ≤ cur.length
  done : ∀ (m : Nat) x, ((l.take j).filter (fun x => !p x))[m]? = some x → cur[m]? = some (.int .i64 x)
  todo : ∀ (m : Nat) x, j ≤ m → l[m]? = some x → cur[m]? = some (.int .i64 x)
theorem take_next {l : List Int} {j : Nat} {x : Int} (hx : l[j]? = some x) : l.take (j + 1) = l.take j ++ [x] := by rw [List.take_add_one, hx]; rfl
theorem Dl.skip {l : List Int} {p : Int → Bool} {g base : Nat} {w : World} {i j : Nat} {cur : List Value} {wr wz : World} (h : Dl l p g base w i j cur wr) (hb : base ≤ wr.heap.size) (hz : Below wr.heap.size wr wz) {x : Int} (hx : l[j]? = some x) (hp : p x = true) : Dl l p g base w i (j + 1) cur wz := by
  have hf : (l.take (j + 1)).filter (fun x => !p x) = (l.take j).filter (fun x => !p x) := by rw [take_next hx, List.filter_append]; simp [hp]
  exact ⟨h.bl.trans (hz.mono hb), h.arr.stays hz, by rw [hf]; exact h.hi, by have := h.lt; omega, (List.getElem?_eq_some_iff.1 hx).1, h.hcl, fun m y hy => h.done m y (by rw [hf] at hy; exact hy), fun m y hm hy => h.todo m y (by omega) hy⟩
theorem Dl.keep {l : List Int} {p : Int → Bool} {g base : Nat} {w : World} {i j : Nat} {cur : List Value} {wr wz : World} (h : Dl l p g base w i j cur wr) (hg : base ≤ g) (hb : base ≤ wr.heap.size) (hz : Below wr.heap.size wr wz) {x : Int} (hx : l[j]? = some x) (hp : p x = false) : Dl l p g base w (i + 1) (j + 1) (cur.set i (.int .i64 x)) (wz.setCell ⟨g, i, none⟩ (.int .i64 x)) := by
  have hf : (l.take (j + 1)).filter (fun x => !p x) = (l.take j).filter (fun x => !p x) ++ [x] := by rw [take_next hx, List.filter_append]; simp [hp]
  have hlt := h.lt
  have hj := (List.getElem?_eq_some_iff.1 hx).1
  have hcl := h.hcl
  refine ⟨(h.bl.trans (hz.mono hb)).setCell hg _, (h.arr.stays hz).set i _, by rw [hf, List.length_append, h.hi]; rfl, by omega, hj, by rw [List.length_set]; exact h.hcl, fun m y hy => ?_, fun m y hm hy => ?_⟩
  · rw [hf] at hy
    rw [List.getElem?_append, h.hi] at hy
    by_cases hm : m < i
    · rw [if_pos hm] at hy
      rw [List.getElem?_set_ne (by omega)]
      exact h.done m y hy
    · rw [if_neg hm] at hy
      by_cases he : m - i = 0
      · rw [he] at hy
        simp at hy
        subst hy
        obtain rfl : m = i := by omega
        rw [List.getElem?_set_self (by omega)]
      · rw [List.getElem?_eq_none (by simp; omega)] at hy
        cases hy
  · rw [List.getElem?_set_ne (by omega)]
    exact h.todo m y (by omega) hy
theorem bl_setCells {B : Nat} {w : World} (g : Nat) (hg : B ≤ g) : ∀ (vs : List Value) (o : Nat) (w1 : World), Below B w w1 → Below B w (w1.setCells g o vs)
  | [], _, _, h => h
  | v :: r, o, w1, h => bl_setCells g hg r (o + 1) _ (h.setCell (p := ⟨g, o, none⟩) hg v)

end Go.Proofs.YtjodgnkhociaaaaGreat

namespace Go.Proofs.YtjodgnkhociaaaaGreat
open Go.RowKit
set_option linter.unusedVariables false
set_option linter.unusedSimpArgs false

theorem run_makeMap_some (n : Nat) (w : World) : (Instr.makeMap 332 (some (.int .i64 (n : Int)))).run Tryz.prog w = .ok (.map (some w.heap.size)) (w.alloc (.map #[] 0)) := by
  have h : ¬ ((n : Int) < 0) := by omega
  simp [Instr.makeMap, asInt, asIntOf, h, run_underlying Tryz.underlying332]
/-- The box with the map of what is kept. -/
def Kpt (B C n : Nat) (s : List Int) (w : World) : Prop := w.cell? ⟨B, 0, none⟩ = some (.map (some C)) ∧ Told w C n s
theorem Kpt.st (B C n : Nat) (s : List Int) : Jst (Kpt B C n s) := fun w w' h hb => ⟨(hb.cell (p := ⟨B, 0, none⟩) (World.block_lt_of_cell? _ _ h.1)).trans h.1, h.2.stays hb⟩
/-- numbers, with the list's own row. -/
theorem own_below {w w' : World} {base base' : Nat} {e : TypeId} {v : Value} {n : Nat} {xs : List Value} (h : w.ownsRow base e 1 v n xs) (hb : base' ≤ base) : w.ownsRow base' e 1 v n xs := by
  refine ⟨h.1, ?_⟩
  rcases h.2 with h2 | ⟨g, cap, cur, h3, h4, h5⟩
  · exact .inl h2
  · exact .inr ⟨g, cap, cur, h3, Nat.le_trans hb h4, h5⟩
set_option maxHeartbeats 1000000 in
set_option maxRecDepth 100000 in
theorem numbers_own (w : World) (n : Nat) (vs : List Value) (t : Tp) (kind : Int) (hT : TAt w Any n vs t) (hc : t.cnt ≤ 1048576) : Calls Tryz.prog 161 #[.agg vs.toArray, .int .i64 kind] w fun e w' => ∃ p c, e = .returned (.slice p (Tp.found kind t []).length c) ∧ w'.ownsRow w.heap.size 3 1 (.slice p (Tp.found kind t []).length c) (Tp.found kind t []).length ((Tp.found kind t []).map (.int .i64)) ∧ Below w.heap.size w w' := by
  have hq : Hid (∀ o, Calls Tryz.prog 172 #[.agg vs.toArray, .func (.func 173) #[.pointer (some ⟨w.heap.size + 1 + 1, 0, none⟩)] #[]] (((w.alloc o).alloc (.map #[] 0)).alloc (.cells #[.int .i64 kind, .slice none 0 0, .map (some (w.heap.size + 1))] 334)) fun e w' => e = .returned (.bool true) ∧ ∃ p c, Gth (w.heap.size + 1 + 1) (w.heap.size + 1) kind (.slice p (Tp.found kind t []).length c) (Tp.found kind t []) w' ∧ Below w.heap.size w w') := by
    intro o
    have hb : Below w.heap.size w (((w.alloc o).alloc (.map #[] 0)).alloc (.cells #[.int .i64 kind, .slice none 0 0, .map (some (w.heap.size + 1))] 334)) := bl_alloc (bl_alloc (bl_alloc (Below.refl _ _) _) _) _
    have hT1 : TAt (((w.alloc o).alloc (.map #[] 0)).alloc (.cells #[.int .i64 kind, .slice none 0 0, .map (some (w.heap.size + 1))] 334)) (fun b => ¬ Og (w.heap.size + 1 + 1) (w.heap.size + 1) (.slice none 0 0) b) n vs t := (TAt.old hT).move (Keeps.of_below hb) fun b h ho => by
      rcases ho with ho | ho | ho
      · omega
      · omega
      · cases ho
    refine (walk_anyB List.length 1048576 _ _ (Tp.fTake kind) (IGth (w.heap.size + 1 + 1) (w.heap.size + 1) kind) _ _ (fTake_len kind) (IGth.steady _ _ kind) enters_take (take_see _ _ kind _ _) n _ _ [] vs t ⟨_, gth_new w kind o, rfl⟩ (Ev.refl _ _) (TAt.oldK hT1) (by rw [List.length_nil]; omega)).mono ?_
    rintro e w' ⟨rfl, own', ⟨lv, hG, rfl⟩, hE⟩
    rw [Tp.walk_take] at hG ⊢
    obtain ⟨p, c, rfl⟩ := own_form hG.own
    refine ⟨rfl, p, c, hG, hb.trans (hE.below (by simp; omega) (fun b hb => ?_))⟩
    rcases hb with hb | hb | hb
    · omega
    · omega
    · cases hb
  obtain ⟨a, c, rfl⟩ := hT.form
  clear hT hc
  have hmm := @run_makeMap Tryz.prog
  go_enter Tryz.func161, Tryz.ntmps161
  go_wp2_with (go_at_call 172; refine (hq.out _).mono ?_; rintro e w2 ⟨rfl, p2, c2, hG2, hb2⟩; have HG : Hid (Gth _ _ _ _ _ w2) := hG2; have k1 := hG2.b.cell; clear hG2)
  go_ret
  exact ⟨_, _, rfl, own_below (w' := w2) HG.out.own (by omega), hb2⟩

set_option maxRecDepth 100000 in
theorem Metas_own (w : World) (n : Nat) (vs : List Value) (t : Tp) (hT : TAt w Any n vs t) (hc : t.cnt ≤ 1048576) : Calls Tryz.prog 157 #[.agg vs.toArray] w fun e w' => ∃ p c, e = .returned (.slice p (Tp.found 7 t []).length c) ∧ w'.ownsRow w.heap.size 3 1 (.slice p (Tp.found 7 t []).length c) (Tp.found 7 t []).length ((Tp.found 7 t []).map (.int .i64)) ∧ Below w.heap.size w w' := by
  have hq : Hid (∀ o, Calls Tryz.prog 161 #[.agg vs.toArray, .int .i64 7] (w.alloc o) fun e w' => ∃ p c, e = .returned (.slice p (Tp.found 7 t []).length c) ∧ w'.ownsRow w.heap.size 3 1 (.slice p (Tp.found 7 t []).length c) (Tp.found 7 t []).length ((Tp.found 7 t []).map (.int .i64)) ∧ Below w.heap.size w w') := fun o => (numbers_own _ n vs t 7 (hT.below (bl_alloc (Below.refl _ _) _)) hc).mono fun e w' ⟨p, c, h1, h2, h3⟩ => ⟨p, c, h1, own_below (w' := w') h2 (by simp), bl_tr (bl_alloc (Below.refl _ _) _) h3⟩
  obtain ⟨a, c, rfl⟩ := hT.form
  clear hT hc
  go_enter Tryz.func157, Tryz.ntmps157
  go_wp2_with (go_at_call 161; refine (hq.out _).mono ?_; rintro e w2 ⟨p2, c2, rfl, h2, hb2⟩; have H2 := hid h2; clear h2)
  go_ret
  exact ⟨_, _, rfl, H2.out, hb2⟩

end Go.Proofs.YtjodgnkhociaaaaGreat

namespace Go.Proofs.YtjodgnkhociaaaaGreat
open Go.RowKit
set_option linter.unusedVariables false
set_option linter.unusedSimpArgs false

/-- What stands open: the metas that are not kept, then what was open. -/
def Tp.open_ (t : Tp) (keep : List Int) : List (Int × Int) := pls 7 ((Tp.found 7 t []).filter fun x => !decide (x ∈ keep)) ++ pls 8 (Tp.found 8 t [])
theorem open_nodup (t : Tp) (keep : List Int) : (Tp.open_ t keep).Nodup := by
  unfold Tp.open_ pls
  rw [List.nodup_append]
  have hinj : ∀ (k : Int) (l : List Int), l.Nodup → (l.map fun n => (k, n)).Nodup := fun k l h => by
    rw [List.Nodup, List.pairwise_map]
    exact h.imp fun hne e => hne (Prod.mk.inj e).2
  refine ⟨hinj _ _ ((Tp.found_nodup 7 t).filter _), hinj _ _ (Tp.found_nodup 8 t), fun a ha b hb e => ?_⟩
  obtain ⟨x, -, rfl⟩ := List.mem_map.1 ha
  obtain ⟨y, -, rfl⟩ := List.mem_map.1 hb
  exact absurd (Prod.mk.inj e).1 (by decide)
theorem open_len (t : Tp) (keep : List Int) (hc : t.cnt ≤ 1048576) : (Tp.open_ t keep).length ≤ 2097152 := by
  unfold Tp.open_ pls
  rw [List.length_append, List.length_map, List.length_map]
  have h1 := Tp.found_len 7 t
  have h2 := Tp.found_len 8 t
  have h3 := List.length_filter_le (fun x => !decide (x ∈ keep)) (Tp.found 7 t [])
  omega
theorem r64_7 : R64 7 := ⟨by decide, by decide⟩
theorem r64_8 : R64 8 := ⟨by decide, by decide⟩

end Go.Proofs.YtjodgnkhociaaaaGreat

namespace Go.Proofs.YtjodgnkhociaaaaGreat
open Go.RowKit
set_option linter.unusedVariables false
set_option linter.unusedSimpArgs false

/-- A pointer to a type. -/
def PAt (w : World) (p : Value) (t : Tp) : Prop := ∃ b o n v, p = .pointer (some ⟨b, o, none⟩) ∧ w.cell? ⟨b, o, none⟩ = some (.int .i64 t.k) ∧ w.cell? ⟨b, o + 1, none⟩ = some (.int .i64 t.n) ∧ w.cell? ⟨b, o + 2, none⟩ = some v ∧ TAt w Any n [.int .i64 t.k, .int .i64 t.n, v] t
/-- Where the i-th part of what p points at lies. -/
def kidAt (w : World) (p : Value) (i : Nat) : Value :=
  match p with
  | .pointer (some a) => match w.cell? ⟨a.block, a.off + 2, none⟩ with
    | some (.slice (some c) _ _) => .pointer (some ⟨c.block, c.off + i * 3, none⟩)
    | _ => .pointer none
  | _ => .pointer none
theorem PAt.kid {w : World} {p : Value} {t x : Tp} {i : Nat} (h : PAt w p t) (hx : t.ks[i]? = some x) : PAt w (kidAt w p i) x := by
  obtain ⟨b, o, n, v, rfl, h1, h2, h3, h4⟩ := h
  cases n with
  | zero => exact h4.elim
  | succ n =>
    obtain ⟨v', e, -, -, hL⟩ := h4.open_
    simp only [List.cons.injEq, and_true, true_and] at e
    subst e
    obtain ⟨b', o', c', hv, -⟩ := hL.resolve_right (fun h => by rw [h.1] at hx; simp at hx)
    subst hv
    obtain ⟨vx, tx, x0, x1, x2, -, -⟩ := hL.elem hx
    refine ⟨b', o' + i * 3, n, vx, ?_, x0, x1, x2, tx⟩
    simp [kidAt, h3]
theorem PAt.slice {w : World} {b o : Nat} {t : Tp} (h : PAt w (.pointer (some ⟨b, o, none⟩)) t) : ∃ a c, w.cell? ⟨b, o + 2, none⟩ = some (.slice a t.ks.length c) ∧ t.ks.length ≤ maxLen ∧ ∀ i : Nat, i < t.ks.length → ∃ b' o', a = some ⟨b', o', none⟩ ∧ kidAt w (.pointer (some ⟨b, o, none⟩)) i = .pointer (some ⟨b', o' + i * 3, none⟩) := by
  obtain ⟨b0, o0, n, v, e, h1, h2, h3, h4⟩ := h
  injection e with e
  injection e with e
  injection e with e1 e2
  subst e1
  subst e2
  cases n with
  | zero => exact h4.elim
  | succ n =>
    obtain ⟨v', e, -, -, hL⟩ := h4.open_
    simp only [List.cons.injEq, and_true, true_and] at e
    subst e
    obtain ⟨a, c, rfl, hm⟩ := hL.form
    refine ⟨a, c, h3, hm, fun i hi => ?_⟩
    obtain ⟨b', o', c', hv, -⟩ := hL.resolve_right (fun h => by rw [h.1] at hi; simp at hi)
    injection hv with e1 e2 e3
    exact ⟨b', o', e1, by simp [kidAt, h3, e1]⟩
def prCells (ps : List Pr) : List Value := ps.flatMap fun r => [r.p, r.q]
theorem prCells_len (ps : List Pr) : (prCells ps).length = ps.length * 2 := by
  unfold prCells
  induction ps with
  | nil => rfl
  | cons r l ih => rw [List.flatMap_cons, List.length_append, ih]; simp; omega
theorem step_app_eq {P : Program} {ops : Array Oper} {o : Oper} {a : Act} {w : World} {K : Act → World → Prop} {Q : Exit → Act → World → Prop} {E : Prop} (hgd : o.guard = none) (s x : Operand) (t : TypeId) (hop : o.op = .call { callee := .builtin .append, args := #[s, x], argTypes := #[t, t] })
    (v vx : Value) (hs : a.eval s = v) (hx : a.eval x = vx) (v' : Value) (w' : World) (hr : (Builtin.append_ #[t, t] o.type #[v, vx]).run P w = .ok v' w') (hK : K (a.put o.dst v') w') : if Region.wanted o (yielded ops a.tmps) = true then Oper.wp P o a w K Q else E := by
  have hw : Region.wanted o (yielded ops a.tmps) = true := by simp [Region.wanted, hgd]
  rw [if_pos hw]
  unfold Oper.wp execOp
  simp only [hop, resolve, invoke, builtin, Sem.run_bind, Sem.run_pure, Result.andThen_ok, List.map_toArray, List.map_cons, List.map_nil, hs, hx, hr]
  exact hK
end Go.Proofs.YtjodgnkhociaaaaGreat
