/- renewed: a type in new memory, with what is made of each node's kind and number. The map of places. itself, metasFrom, add, becomes; the places' scheme. slices.IndexFunc, slices.DeleteFunc over ints, with a function that may make memory. without. The program's greatest. -/
import Derived.Laws.MakeOwn
import Derived.Maps.OwnSet
import Derived.DeepKeys4
import Derived.Lib.SliceRun
import Derived.Laws.IdiomCopy
import Derived.Test.YtigliglmejkakaaGreatRad
import Derived.Test.YtigliglmejkakaaGreatRag
import Derived.Test.YtigliglmejkakaaGreatRah
import Derived.Test.YtigliglmejkakaaGreatRai
import Derived.Test.YtigliglmejkakaaGreatRak
namespace Go.Proofs.YtigliglmejkakaaGreat
open Go.RowKit
set_option linter.unusedVariables false
set_option linter.unusedSimpArgs false

/-- What is made of a kind and a number. -/
def MakerOf (g : FuncId) (fs bs : Array Value) (f : Int → Int → Int × Int) (w : World) : Prop :=
  ∀ (wz : World) (k n : Int), Below w.heap.size w wz → R64 k → R64 n →
    Calls Tryz.prog g (fs ++ (#[.int .i64 k, .int .i64 n] ++ bs)) wz fun e w' => e = .returned (.tuple #[.int .i64 (f k n).1, .int .i64 (f k n).2]) ∧ R64 (f k n).1 ∧ R64 (f k n).2 ∧ Below wz.heap.size wz w'
/-- The list that is made: k elements stand in it. -/
structure Rnw (w : World) (f : Int → Int → Int × Int) (t : Tp) (v : Value) (g k N : Nat) (cur : List Value) (wr : World) : Prop where
  bl : Below w.heap.size w wr
  box : Arr wr w.heap.size 24 [.int .i64 t.k, .int .i64 t.n, v]
  res : Arr wr (w.heap.size + 1) 24 [.int .i64 0, .int .i64 0, .slice none 0 0]
  arr : Arr wr g 24 cur
  hg : w.heap.size + 2 ≤ g
  len : cur.length = t.ks.length * 3
  done : ∀ (i : Nat) x, i < k → t.ks[i]? = some x → ∃ a c, TAt wr (fun b => g < b) N [.int .i64 (Tp.ren f x).k, .int .i64 (Tp.ren f x).n, .slice a (Tp.ren f x).ks.length c] (Tp.ren f x) ∧ Seg cur (i * 3) [.int .i64 (Tp.ren f x).k, .int .i64 (Tp.ren f x).n, .slice a (Tp.ren f x).ks.length c]
theorem Rnw.stays {w : World} {f : Int → Int → Int × Int} {t : Tp} {v : Value} {g k N : Nat} {cur : List Value} {wr wz : World} (h : Rnw w f t v g k N cur wr) (hb : Below wr.heap.size wr wz) : Rnw w f t v g k N cur wz :=
  ⟨bl_tr h.bl hb, h.box.stays hb, h.res.stays hb, h.arr.stays hb, h.hg, h.len, fun i x hi hx => by obtain ⟨a, c, h1, h2⟩ := h.done i x hi hx; exact ⟨a, c, h1.below hb, h2⟩⟩
theorem Rnw.store {w : World} {f : Int → Int → Int × Int} {t : Tp} {v : Value} {g k N : Nat} {cur : List Value} {wr : World} (h : Rnw w f t v g k N cur wr) (hk : k < t.ks.length) {x y : Tp} (hx : t.ks[k]? = some x) (hy : Tp.ren f x = y) {N' : Nat} {a : Option Addr} {c : Nat} (hT : TAt wr (fun b => g < b) N' [.int .i64 y.k, .int .i64 y.n, .slice a y.ks.length c] y) :
    Rnw w f t v g (k + 1) (max N N') (((cur.set (k * 3) (.int .i64 y.k)).set (k * 3 + 1) (.int .i64 y.n)).set (k * 3 + 2) (.slice a y.ks.length c)) (((wr.setCell ⟨g, k * 3, none⟩ (.int .i64 y.k)).setCell ⟨g, k * 3 + 1, none⟩ (.int .i64 y.n)).setCell ⟨g, k * 3 + 2, none⟩ (.slice a y.ks.length c)) := by
  have hg := h.hg
  have hK : ∀ (W : World) j u, Keeps (fun b => g < b) W (W.setCell ⟨g, j, none⟩ u) := fun W j u => Keeps.set (K := fun b => g < b) (p := ⟨g, j, none⟩) (fun h => Nat.lt_irrefl g h) u
  have hKK : Keeps (fun b => g < b) wr (((wr.setCell ⟨g, k * 3, none⟩ (.int .i64 y.k)).setCell ⟨g, k * 3 + 1, none⟩ (.int .i64 y.n)).setCell ⟨g, k * 3 + 2, none⟩ (.slice a y.ks.length c)) := ((hK _ _ _).trans (hK _ _ _)).trans (hK _ _ _)
  have hlen : k * 3 + 2 < cur.length := by rw [h.len]; omega
  refine ⟨bl_set _ _ (bl_set _ _ (bl_set _ _ h.bl (by show _ ≤ g; omega)) (by show _ ≤ g; omega)) (by show _ ≤ g; omega), ((h.box.other (by show _ ≠ g; omega) _).other (by show _ ≠ g; omega) _).other (by show _ ≠ g; omega) _, ((h.res.other (by show _ ≠ g; omega) _).other (by show _ ≠ g; omega) _).other (by show _ ≠ g; omega) _, ((h.arr.set _ _).set _ _).set _ _, hg, by simp only [List.length_set]; exact h.len, fun i z hi hz => ?_⟩
  by_cases he : i = k
  · subst he
    rw [hx] at hz
    injection hz with hz
    subst hz
    subst hy
    exact ⟨a, c, (hT.move hKK (fun _ h => h)).le (Nat.le_max_right _ _), Seg.set3 hlen⟩
  · obtain ⟨a1, c1, h1, h2⟩ := h.done i z (by omega) hz
    exact ⟨a1, c1, (h1.move hKK (fun _ h => h)).le (Nat.le_max_left _ _), h2.other3 rfl (by omega)⟩
theorem Rnw.fin {w : World} {f : Int → Int → Int × Int} {t : Tp} {v : Value} {g N : Nat} {cur : List Value} {wr W : World} (h : Rnw w f t v g t.ks.length N cur wr) (hk : Keeps (fun b => w.heap.size + 2 ≤ b) wr W) (h1 : R64 (f t.k t.n).1) (h2 : R64 (f t.k t.n).2) (hl : t.ks.length ≤ 1048576) : TAt W (fun b => w.heap.size ≤ b) (N + 1) [.int .i64 (f t.k t.n).1, .int .i64 (f t.k t.n).2, .slice (some ⟨g, 0, none⟩) t.ks.length t.ks.length] (Tp.ren f t) := by
  have hg := h.hg
  rw [Tp.ren_eq]
  refine ⟨_, rfl, h1, h2, (show TRow _ _ _ _ (t.ks.map (Tp.ren f)) from .inl ⟨g, 0, t.ks.length, by rw [List.length_map], by omega, by rw [List.length_map]; exact Nat.le_refl _, by rw [List.length_map]; unfold maxLen; omega, fun i y hy => ?_⟩)⟩
  rw [List.getElem?_map] at hy
  obtain ⟨x, hx, rfl⟩ := Option.map_eq_some_iff.1 hy
  obtain ⟨a, c, h1, h2⟩ := h.done i x (List.getElem?_eq_some_iff.1 hx).1 hx
  refine ⟨_, ?_, h1.move (fun b o v hb hv => hk b o v (show _ ≤ _ by omega) hv) (fun b hb => by omega)⟩
  rw [Nat.zero_add]
  exact fun j v hv => hk g _ _ hg (Seg.cells h.arr h2 j v hv)
theorem info_type3 : (Tryz.prog.info? 24).map (fun i => (i.zero, i.size, i.bytes)) = some (some (.agg #[.int .i64 0, .int .i64 0, .slice none 0 0]), 3, 40) := by kernel_rfl
theorem made_cells (n : Nat) : ∃ M : Array Value, M.size = n * 3 ∧ ∀ (w : World), n ≤ 1048576 → (Instr.makeSlice 22 (.int .i64 (n : Int)) (.int .i64 (n : Int))).run Tryz.prog w = .ok (.slice (some ⟨w.heap.size, 0, none⟩) n n) (w.alloc (.cells M 24)) := by
  obtain ⟨i, hi, he⟩ := Option.map_eq_some_iff.1 info_type3
  injection he with hz he
  injection he with hs hb
  refine ⟨madeCells (Value.agg #[.int .i64 0, .int .i64 0, .slice none 0 0]).cells (n * 3), size_madeCells _ _, fun w hn => ?_⟩
  have h := run_make (P := Tryz.prog) w 22 24 i _ Tryz.underlying22 hi hz .i64 .i64 n n (by omega) (Int.le_refl _) (by rw [hb]; omega) (by omega)
  simp only [Int.toNat_natCast, hs] at h
  exact h

end Go.Proofs.YtigliglmejkakaaGreat

namespace Go.Proofs.YtigliglmejkakaaGreat
open Go.RowKit
set_option linter.unusedVariables false
set_option linter.unusedSimpArgs false

theorem laid12 : laidOutB Tryz.prog = true := by kernel_rfl
def pv (k n : Int) : Value := .agg #[.int .i64 k, .int .i64 n]
theorem wf64 {x : Int} (hx : R64 x) : (Lit.int .i64 x).wf = true := by obtain ⟨a, b⟩ := hx; simp [Lit.wf, IntKind.min, IntKind.max, IntKind.signed, IntKind.bits]; omega
theorem int_cells : Tryz.prog.cellsOf 3 = 1 := by kernel_rfl
theorem lit_inj {a b : Int} {p q : List MemPlace} (h : ((DataW.lit (Lit.int .i64 a) : DataW Unit), p) = (.lit (.int .i64 b), q)) : a = b := by
  have h := (Prod.mk.inj h).1
  injection h with h
  injection h
def kl (k n : Int) : Lit := .string (keyBytes [.int .i64 k, .int .i64 n])
theorem kl_lit (k n : Int) : WideAt.IsKeyLit (kl k n) := by simp [kl, WideAt.IsKeyLit]
theorem zero_int12 (w : World) : (zeroValue 3).run Tryz.prog w = .ok (.int .i64 0) w := by kernel_rfl
end Go.Proofs.YtigliglmejkakaaGreat

namespace Go.Proofs.YtigliglmejkakaaGreat
open Go.RowKit
set_option linter.unusedVariables false
set_option linter.unusedSimpArgs false

theorem wpList_len1 {P : Program} {ops : Array Oper} {rest : List Oper} {o : Oper} {a : Act} {w : World} {Q : Exit → Act → World → Prop} (hgd : o.guard = none) (s : Operand) (t : TypeId)
    (ho : o.op = .call { callee := .builtin .len, args := #[s], argTypes := #[t] }) (v : Value) (hs : a.eval s = v) (v' : Value)
    (hr : (Builtin.len_ #[t] o.type #[v]).run P w = .ok v' w) (h : wpList P ops Q rest (a.put o.dst v') w) : wpList P ops Q (o :: rest) a w := by
  refine wpList_plain hgd fun _ hK => ?_
  unfold Oper.wp execOp
  simp only [ho, resolve, invoke, builtin, Sem.run_bind, Sem.run_pure, Result.andThen_ok, List.map_toArray, List.map_cons, List.map_nil, hs, hr]
  exact hK _ _ h
theorem wpList_mapUp {P : Program} {ops : Array Oper} {rest : List Oper} {o : Oper} {a : Act} {w : World} {Q : Exit → Act → World → Prop} (hgd : o.guard = none) (m x v : Operand) (t : TypeId) (hop : o.op = .mapUpdate t m x v)
    (vm vx vv : Value) (hm : a.eval m = vm) (hx : a.eval x = vx) (hv : a.eval v = vv) (w' : World) (hr : (Instr.mapUpdate t vm vx vv).run P w = .ok () w') (h : wpList P ops Q rest (a.put o.dst undef) w') : wpList P ops Q (o :: rest) a w := by
  refine wpList_plain hgd fun _ hK => ?_
  unfold Oper.wp
  simp [execOp, hop, hm, hx, hv, hr, Result.andThen]
  exact hK _ _ h
theorem wpList_look {P : Program} {ops : Array Oper} {rest : List Oper} {o : Oper} {a : Act} {w : World} {Q : Exit → Act → World → Prop} (hgd : o.guard = none) (m x : Operand) (t : TypeId) (c : Bool) (hop : o.op = .lookup t m x c)
    (vm vx v' : Value) (hm : a.eval m = vm) (hx : a.eval x = vx) (hr : (Instr.lookup t vm vx c).run P w = .ok v' w) (h : wpList P ops Q rest (a.put o.dst v') w) : wpList P ops Q (o :: rest) a w := by
  refine wpList_plain hgd fun _ hK => ?_
  unfold Oper.wp
  simp [execOp, hop, hm, hx, hr, Result.andThen]
  exact hK _ _ h

/-- What places become. -/
def plf (L : List (Int × Int)) (k n : Int) : Int × Int := if (k, n) ∈ L then (8, (L.idxOf (k, n) : Nat)) else (k, n)
/-- The numbers from next on in place of TGen. -/
def mff (next k n : Int) : Int × Int := if k = 8 then (7, wrap64 (next + n)) else (k, n)
theorem wrap64_r (x : Int) : R64 (wrap64 x) := by unfold R64 wrap64; omega
theorem Ls.kept {w w' : World} {v : Value} {l : List Int} {C : Nat} {K : Nat → Prop} (h : Ls w K v l) (hg : w.grownBy w' (some C)) (hC : ∀ o : Nat, w.cell? ⟨C, o, none⟩ = none) : Ls w' K v l := by
  rcases h with ⟨b, o, c, hv, hb, hc, hm, hl⟩ | h
  · refine .inl ⟨b, o, c, hv, hb, hc, hm, fun j x hx => ?_⟩
    have h1 := hl j x hx
    have hne : b ≠ C := fun e => by rw [e, hC] at h1; cases h1
    obtain ⟨g1, g2, g3, g4, g5⟩ := hg
    rw [← h1]
    exact World.cell?_of_block (w := w) (g5 b (World.block_lt_of_cell? _ _ h1) (fun e => hne (by injection e)))
  · exact .inr h
theorem grown_tr {a b c : World} {C : Nat} (h : a.grownBy b (some C)) (k : b.grownBy c (some C)) : a.grownBy c (some C) := by
  obtain ⟨h1, h2, h3, h4, h5⟩ := h
  obtain ⟨k1, k2, k3, k4, k5⟩ := k
  exact ⟨k1.trans h1, k2.trans h2, k3.trans h3, Nat.le_trans h4 k4, fun j hj hne => (k5 j (Nat.lt_of_lt_of_le hj h4) hne).trans (h5 j hj hne)⟩
theorem grown_refl (a : World) (C : Nat) : a.grownBy a (some C) := ⟨rfl, rfl, rfl, Nat.le_refl _, fun _ _ _ => rfl⟩
def pls (kind : Int) (l : List Int) : List (Int × Int) := l.map fun n => (kind, n)

end Go.Proofs.YtigliglmejkakaaGreat

namespace Go.Proofs.YtigliglmejkakaaGreat
open Go.RowKit
set_option linter.unusedVariables false
set_option linter.unusedSimpArgs false

/-- A function that tells of a number, where J holds. -/
def DelOf (g : FuncId) (q : Value) (p : Int → Bool) (J : World → Prop) : Prop :=
  ∀ (wz : World) (x : Int), J wz → R64 x → Calls Tryz.prog g #[.int .i64 x, q] wz fun e w' => e = .returned (.bool (p x)) ∧ Below wz.heap.size wz w'
def Jst (J : World → Prop) : Prop := ∀ w w' : World, J w → Below w.heap.size w w' → J w'
def fst1 (p : Int → Bool) : List Int → Nat → Int
  | [], _ => -1
  | x :: r, i => if p x then i else fst1 p r (i + 1)
theorem fst1_at {p : Int → Bool} {l : List Int} {k : Nat} {x : Int} (hx : l[k]? = some x) : fst1 p (l.drop k) k = if p x then (k : Int) else fst1 p (l.drop (k + 1)) (k + 1) := by
  obtain ⟨h1, e1⟩ := List.getElem?_eq_some_iff.1 hx
  rw [List.drop_eq_getElem_cons h1, e1, fst1]

theorem fst1_spec (p : Int → Bool) : ∀ (l : List Int) (i : Nat), (fst1 p l i = -1 ∧ l.filter (fun x => !p x) = l) ∨ ∃ k : Nat, fst1 p l i = ((i + k : Nat) : Int) ∧ k < l.length ∧ (l.take (k + 1)).filter (fun x => !p x) = l.take k
  | [], i => .inl ⟨rfl, rfl⟩
  | x :: r, i => by
    rw [fst1]
    cases hp : p x with
    | true => exact .inr ⟨0, by simp, by simp, by simp [hp]⟩
    | false =>
      simp only [Bool.false_eq_true, if_false]
      rcases fst1_spec p r (i + 1) with ⟨h1, h2⟩ | ⟨k, h1, h2, h3⟩
      · exact .inl ⟨h1, by simp [hp, h2]⟩
      · exact .inr ⟨k + 1, by rw [h1]; congr 1; omega, by simpa using h2, by rw [List.take_succ_cons, List.filter_cons]; simp [hp, h3]⟩
structure Dl (l : List Int) (p : Int → Bool) (g base : Nat) (w : World) (i j : Nat) (cur : List Value) (wr : World) : Prop where
  bl : Below base w wr
  arr : Arr wr g 3 cur
  hi : ((l.take j).filter (fun x => !p x)).length = i
  lt : i < j
  hj : j ≤ l.length
  hcl : l.length ≤ cur.length
  done : ∀ (m : Nat) x, ((l.take j).filter (fun x => !p x))[m]? = some x → cur[m]? = some (.int .i64 x)
  todo : ∀ (m : Nat) x, j ≤ m → l[m]? = some x → cur[m]? = some (.int .i64 x)
theorem take_next {l : List Int} {j : Nat} {x : Int} (hx : l[j]? = some x) : l.take (j + 1) = l.take j ++ [x] := by rw [List.take_add_one, hx]; rfl
theorem Dl.skip {l : List Int} {p : Int → Bool} {g base : Nat} {w : World} {i j : Nat} {cur : List Value} {wr wz : World} (h : Dl l p g base w i j cur wr) (hb : base ≤ wr.heap.size) (hz : Below wr.heap.size wr wz) {x : Int} (hx : l[j]? = some x) (hp : p x = true) : Dl l p g base w i (j + 1) cur wz := by
  have hf : (l.take (j + 1)).filter (fun x => !p x) = (l.take j).filter (fun x => !p x) := by rw [take_next hx, List.filter_append]; simp [hp]
  exact ⟨h.bl.trans (hz.mono hb), h.arr.stays hz, by rw [hf]; exact h.hi, by have := h.lt; omega, (List.getElem?_eq_some_iff.1 hx).1, h.hcl, fun m y hy => h.done m y (by rw [hf] at hy; exact hy), fun m y hm hy => h.todo m y (by omega) hy⟩
theorem Dl.keep {l : List Int} {p : Int → Bool} {g base : Nat} {w : World} {i j : Nat} {cur : List Value} {wr wz : World} (h : Dl l p g base w i j cur wr) (hg : base ≤ g) (hb : base ≤ wr.heap.size) (hz : Below wr.heap.size wr wz) {x : Int} (hx : l[j]? = some x) (hp : p x = false) : Dl l p g base w (i + 1) (j + 1) (cur.set i (.int .i64 x)) (wz.setCell ⟨g, i, none⟩ (.int .i64 x)) := by
  have hf : (l.take (j + 1)).filter (fun x => !p x) = (l.take j).filter (fun x => !p x) ++ [x] := by rw [take_next hx, List.filter_append]; simp [hp]
  have hlt := h.lt
  have hj := (List.getElem?_eq_some_iff.1 hx).1
  have hcl := h.hcl
  refine ⟨(h.bl.trans (hz.mono hb)).setCell hg _, (h.arr.stays hz).set i _, by rw [hf, List.length_append, h.hi]; rfl, by omega, hj, by rw [List.length_set]; exact h.hcl, fun m y hy => ?_, fun m y hm hy => ?_⟩
  · rw [hf] at hy
    rw [List.getElem?_append, h.hi] at hy
    by_cases hm : m < i
    · rw [if_pos hm] at hy
      rw [List.getElem?_set_ne (by omega)]
      exact h.done m y hy
    · rw [if_neg hm] at hy
      by_cases he : m - i = 0
      · rw [he] at hy
        simp at hy
        subst hy
        obtain rfl : m = i := by omega
        rw [List.getElem?_set_self (by omega)]
      · rw [List.getElem?_eq_none (by simp; omega)] at hy
        cases hy
  · rw [List.getElem?_set_ne (by omega)]
    exact h.todo m y (by omega) hy
theorem bl_setCells {B : Nat} {w : World} (g : Nat) (hg : B ≤ g) : ∀ (vs : List Value) (o : Nat) (w1 : World), Below B w w1 → Below B w (w1.setCells g o vs)
  | [], _, _, h => h
  | v :: r, o, w1, h => bl_setCells g hg r (o + 1) _ (h.setCell (p := ⟨g, o, none⟩) hg v)

end Go.Proofs.YtigliglmejkakaaGreat

namespace Go.Proofs.YtigliglmejkakaaGreat
open Go.RowKit
set_option linter.unusedVariables false
set_option linter.unusedSimpArgs false

theorem run_makeMap_some (n : Nat) (w : World) : (Instr.makeMap 106 (some (.int .i64 (n : Int)))).run Tryz.prog w = .ok (.map (some w.heap.size)) (w.alloc (.map #[] 0)) := by
  have h : ¬ ((n : Int) < 0) := by omega
  simp [Instr.makeMap, asInt, asIntOf, h, run_underlying Tryz.underlying106]
/-- The box with the map of what is kept. -/
def Kpt (B C n : Nat) (s : List Int) (w : World) : Prop := w.cell? ⟨B, 0, none⟩ = some (.map (some C)) ∧ Told w C n s
theorem Kpt.st (B C n : Nat) (s : List Int) : Jst (Kpt B C n s) := fun w w' h hb => ⟨(hb.cell (p := ⟨B, 0, none⟩) (World.block_lt_of_cell? _ _ h.1)).trans h.1, h.2.stays hb⟩
/-- numbers, with the list's own row. -/
theorem own_below {w w' : World} {base base' : Nat} {e : TypeId} {v : Value} {n : Nat} {xs : List Value} (h : w.ownsRow base e 1 v n xs) (hb : base' ≤ base) : w.ownsRow base' e 1 v n xs := by
  refine ⟨h.1, ?_⟩
  rcases h.2 with h2 | ⟨g, cap, cur, h3, h4, h5⟩
  · exact .inl h2
  · exact .inr ⟨g, cap, cur, h3, Nat.le_trans hb h4, h5⟩
set_option maxHeartbeats 1000000 in
set_option maxRecDepth 100000 in
theorem numbers_own (w : World) (n : Nat) (vs : List Value) (t : Tp) (kind : Int) (hT : TAt w Any n vs t) (hc : t.cnt ≤ 1048576) : Calls Tryz.prog 38 #[.agg vs.toArray, .int .i64 kind] w fun e w' => ∃ p c, e = .returned (.slice p (Tp.found kind t []).length c) ∧ w'.ownsRow w.heap.size 3 1 (.slice p (Tp.found kind t []).length c) (Tp.found kind t []).length ((Tp.found kind t []).map (.int .i64)) ∧ Below w.heap.size w w' := by
  have hq : Hid (∀ o, Calls Tryz.prog 30 #[.agg vs.toArray, .func (.func 79) #[.pointer (some ⟨w.heap.size + 1 + 1, 0, none⟩)] #[]] (((w.alloc o).alloc (.map #[] 0)).alloc (.cells #[.int .i64 kind, .slice none 0 0, .map (some (w.heap.size + 1))] 160)) fun e w' => e = .returned (.bool true) ∧ ∃ p c, Gth (w.heap.size + 1 + 1) (w.heap.size + 1) kind (.slice p (Tp.found kind t []).length c) (Tp.found kind t []) w' ∧ Below w.heap.size w w') := by
    intro o
    have hb : Below w.heap.size w (((w.alloc o).alloc (.map #[] 0)).alloc (.cells #[.int .i64 kind, .slice none 0 0, .map (some (w.heap.size + 1))] 160)) := bl_alloc (bl_alloc (bl_alloc (Below.refl _ _) _) _) _
    have hT1 : TAt (((w.alloc o).alloc (.map #[] 0)).alloc (.cells #[.int .i64 kind, .slice none 0 0, .map (some (w.heap.size + 1))] 160)) (fun b => ¬ Og (w.heap.size + 1 + 1) (w.heap.size + 1) (.slice none 0 0) b) n vs t := (TAt.old hT).move (Keeps.of_below hb) fun b h ho => by
      rcases ho with ho | ho | ho
      · omega
      · omega
      · cases ho
    refine (walk_anyB List.length 1048576 _ _ (Tp.fTake kind) (IGth (w.heap.size + 1 + 1) (w.heap.size + 1) kind) _ _ (fTake_len kind) (IGth.steady _ _ kind) enters_take (take_see _ _ kind _ _) n _ _ [] vs t ⟨_, gth_new w kind o, rfl⟩ (Ev.refl _ _) (TAt.oldK hT1) (by rw [List.length_nil]; omega)).mono ?_
    rintro e w' ⟨rfl, own', ⟨lv, hG, rfl⟩, hE⟩
    rw [Tp.walk_take] at hG ⊢
    obtain ⟨p, c, rfl⟩ := own_form hG.own
    refine ⟨rfl, p, c, hG, hb.trans (hE.below (by simp; omega) (fun b hb => ?_))⟩
    rcases hb with hb | hb | hb
    · omega
    · omega
    · cases hb
  obtain ⟨a, c, rfl⟩ := hT.form
  clear hT hc
  have hmm := @run_makeMap Tryz.prog
  go_enter Tryz.func38, Tryz.ntmps38
  go_wp2_with (go_at_call 30; refine (hq.out _).mono ?_; rintro e w2 ⟨rfl, p2, c2, hG2, hb2⟩; have HG : Hid (Gth _ _ _ _ _ w2) := hG2; have k1 := hG2.b.cell; clear hG2)
  go_ret
  exact ⟨_, _, rfl, own_below (w' := w2) HG.out.own (by omega), hb2⟩

set_option maxRecDepth 100000 in
theorem Metas_own (w : World) (n : Nat) (vs : List Value) (t : Tp) (hT : TAt w Any n vs t) (hc : t.cnt ≤ 1048576) : Calls Tryz.prog 40 #[.agg vs.toArray] w fun e w' => ∃ p c, e = .returned (.slice p (Tp.found 7 t []).length c) ∧ w'.ownsRow w.heap.size 3 1 (.slice p (Tp.found 7 t []).length c) (Tp.found 7 t []).length ((Tp.found 7 t []).map (.int .i64)) ∧ Below w.heap.size w w' := by
  have hq : Hid (∀ o, Calls Tryz.prog 38 #[.agg vs.toArray, .int .i64 7] (w.alloc o) fun e w' => ∃ p c, e = .returned (.slice p (Tp.found 7 t []).length c) ∧ w'.ownsRow w.heap.size 3 1 (.slice p (Tp.found 7 t []).length c) (Tp.found 7 t []).length ((Tp.found 7 t []).map (.int .i64)) ∧ Below w.heap.size w w') := fun o => (numbers_own _ n vs t 7 (hT.below (bl_alloc (Below.refl _ _) _)) hc).mono fun e w' ⟨p, c, h1, h2, h3⟩ => ⟨p, c, h1, own_below (w' := w') h2 (by simp), bl_tr (bl_alloc (Below.refl _ _) _) h3⟩
  obtain ⟨a, c, rfl⟩ := hT.form
  clear hT hc
  go_enter Tryz.func40, Tryz.ntmps40
  go_wp2_with (go_at_call 38; refine (hq.out _).mono ?_; rintro e w2 ⟨p2, c2, rfl, h2, hb2⟩; have H2 := hid h2; clear h2)
  go_ret
  exact ⟨_, _, rfl, H2.out, hb2⟩

end Go.Proofs.YtigliglmejkakaaGreat

namespace Go.Proofs.YtigliglmejkakaaGreat
open Go.RowKit
set_option linter.unusedVariables false
set_option linter.unusedSimpArgs false

/-- The greatest of a list. -/
def mxI : List Int → Int
  | [] => 0
  | x :: r => r.foldl max x
theorem mxI_take {l : List Int} {j : Nat} {x : Int} (hj : 1 ≤ j) (hx : l[j]? = some x) : mxI (l.take (j + 1)) = max (mxI (l.take j)) x := by
  match l, j, hj with
  | [], _, _ => simp at hx
  | y :: r, j + 1, _ =>
    simp only [List.getElem?_cons_succ] at hx
    simp only [List.take_succ_cons, mxI]
    rw [List.take_add_one, hx, List.foldl_append]
    rfl

set_option maxHeartbeats 1000000 in
set_option maxRecDepth 100000 in
theorem max_any (w : World) (v : Value) (l : List Int) (h : Ls w Any v l) (hne : 1 ≤ l.length) : Calls Tryz.prog 46 #[v] w fun e w' => e = .returned (.int .i64 (mxI l)) ∧ w' = w := by
  obtain ⟨a, c, rfl, hm⟩ := h.form
  unfold maxLen at hm
  obtain ⟨b, o, c', hv, -, -, -, hl⟩ := h.resolve_right (fun h => by rw [h.1] at hne; exact absurd hne (by simp))
  injection hv with e1 e2 e3
  subst e1
  obtain ⟨x0, hx0⟩ : ∃ x, l[0]? = some x := ⟨_, List.getElem?_eq_getElem hne⟩
  have hc0 := hl 0 x0 hx0
  simp only [Nat.add_zero] at hc0
  have HL := hid hl
  have HM0 : Hid (mxI (l.take 1) = x0) := by
    show _ = _
    match l, hx0 with
    | y :: r, hx0 => simp at hx0; subst hx0; rfl
  have hlt1 : ¬ (l.length : Int) < 1 := by omega
  have hn0 : 0 < l.length := hne
  clear hl hx0 h e2 e3
  go_enter Tryz.func46, Tryz.ntmps46
  go_wp2
  go_loopw [3, 4] (fun u v wr => ∃ (j : Nat) (m : Int), v = .int .i64 j ∧ u = .int .i64 m ∧ 1 ≤ j ∧ j ≤ l.length ∧ Hid (mxI (l.take j) = m) ∧ wr = w) (fun _ v _ => l.length - (intOf v).toNat)
  case atStart => exact ⟨1, x0, rfl, rfl, Nat.le_refl _, hne, HM0, rfl⟩
  case round =>
    obtain ⟨j, m, rfl, rfl, h1, hj, hM, hwr⟩ := hrel
    subst wr
    clear HM0
    by_cases hlt : j < l.length
    · obtain ⟨x, hx⟩ : ∃ x, l[j]? = some x := ⟨_, List.getElem?_eq_getElem hlt⟩
      have hc := HL.out j x hx
      have HT := hid (mxI_take h1 hx)
      clear HL hx
      have HN : Hid (mxI (l.take (j + 1)) = max m x) := by show _ = _; rw [HT.out, hM.out]
      clear HT hM hc0
      go_wp2
      go_roundw
      case rel => exact ⟨j + 1, max m x, by go_num, rfl, by omega, by omega, HN, trivial⟩
      case measure => simp [intOf]; omega
    · obtain rfl : j = l.length := by omega
      rw [List.take_length] at hM
      clear HL hc0
      go_wp2
      go_ret
      exact ⟨by rw [hM.out]; rfl, rfl⟩

set_option maxRecDepth 100000 in
theorem Stamps_own (w : World) (n : Nat) (vs : List Value) (t : Tp) (hT : TAt w Any n vs t) (hc : t.cnt ≤ 1048576) : Calls Tryz.prog 14 #[.agg vs.toArray] w fun e w' => ∃ p c, e = .returned (.slice p (Tp.found 6 t []).length c) ∧ w'.ownsRow w.heap.size 3 1 (.slice p (Tp.found 6 t []).length c) (Tp.found 6 t []).length ((Tp.found 6 t []).map (.int .i64)) ∧ Below w.heap.size w w' := by
  have hq : Hid (∀ o, Calls Tryz.prog 38 #[.agg vs.toArray, .int .i64 6] (w.alloc o) fun e w' => ∃ p c, e = .returned (.slice p (Tp.found 6 t []).length c) ∧ w'.ownsRow w.heap.size 3 1 (.slice p (Tp.found 6 t []).length c) (Tp.found 6 t []).length ((Tp.found 6 t []).map (.int .i64)) ∧ Below w.heap.size w w') := fun o => (numbers_own _ n vs t 6 (hT.below (bl_alloc (Below.refl _ _) _)) hc).mono fun e w' ⟨p, c, h1, h2, h3⟩ => ⟨p, c, h1, own_below (w' := w') h2 (by simp), bl_tr (bl_alloc (Below.refl _ _) _) h3⟩
  obtain ⟨a, c, rfl⟩ := hT.form
  clear hT hc
  go_enter Tryz.func14, Tryz.ntmps14
  go_wp2_with (go_at_call 38; refine (hq.out _).mono ?_; rintro e w2 ⟨p2, c2, rfl, h2, hb2⟩; have H2 := hid h2; clear h2)
  go_ret
  exact ⟨_, _, rfl, H2.out, hb2⟩
/-- The greatest stamp, -1 of none. -/
def Tp.top (t : Tp) : Int := mxI (Tp.found 6 t [] ++ [-1])

set_option maxHeartbeats 1000000 in
set_option maxRecDepth 100000 in
theorem greatest_any (w : World) (n : Nat) (vs : List Value) (t : Tp) (hT : TAt w Any n vs t) (hcnt : t.cnt ≤ 1048576) : Calls Tryz.prog 21 #[.agg vs.toArray] w fun e w' => e = .returned (.int .i64 t.top) ∧ Below w.heap.size w w' := by
  obtain ⟨a1, c1, rfl⟩ := hT.form
  have hlen : (Tp.found 6 t []).length ≤ 1048576 := by have := Tp.found_lenD 6 t []; simp at this; omega
  have HS : Hid (Calls Tryz.prog 14 #[.agg #[.int .i64 t.k, .int .i64 t.n, .slice a1 t.ks.length c1]] (w.alloc (.cells #[.int .i64 t.k, .int .i64 t.n, .slice a1 t.ks.length c1] 24)) fun e w' => ∃ p c, e = .returned (.slice p (Tp.found 6 t []).length c) ∧ w'.ownsRow (w.alloc (.cells #[.int .i64 t.k, .int .i64 t.n, .slice a1 t.ks.length c1] 24)).heap.size 3 1 (.slice p (Tp.found 6 t []).length c) (Tp.found 6 t []).length ((Tp.found 6 t []).map (.int .i64)) ∧ Below (w.alloc (.cells #[.int .i64 t.k, .int .i64 t.n, .slice a1 t.ks.length c1] 24)).heap.size (w.alloc (.cells #[.int .i64 t.k, .int .i64 t.n, .slice a1 t.ks.length c1] 24)) w') := Stamps_own _ n _ t (hT.below (bl_alloc (Below.refl _ _) _)) hcnt
  have HB1 : Hid (Below w.heap.size w (w.alloc (.cells #[.int .i64 t.k, .int .i64 t.n, .slice a1 t.ks.length c1] 24))) := bl_alloc (Below.refl _ _) _
  have HZ1 : Hid ((w.alloc (.cells #[.int .i64 t.k, .int .i64 t.n, .slice a1 t.ks.length c1] 24)).heap.size = w.heap.size + 1) := size_alloc _ _
  have HTop : Hid (t.top = mxI (Tp.found 6 t [] ++ [-1])) := rfl
  obtain ⟨l, hl⟩ : ∃ l, Tp.found 6 t [] = l := ⟨_, rfl⟩
  rw [hl] at HS HTop hlen
  obtain ⟨j0, hj0, hy0, hy1, hy2⟩ := info_parts0 info_int
  clear hT hcnt hl
  go_enter Tryz.func21, Tryz.ntmps21
  go_wp2_with (first | (go_at_call 14; refine HS.out.mono ?_; rintro e w2 ⟨p2, c2, rfl, ho2, b2⟩; have HO2 := hid ho2; have HB2 := hid (bl_tr HB1.out b2); have HSZ := hid b2.size; clear ho2 b2 HS) | (at_builtin; refine wpList_append_own _ rfl _ _ 38 rfl (w.heap.size + 1) 3 j0 (.int .i64 0) 1 8 Tryz.underlying38 hj0 hy0 hy1 hy2 rfl (by decide) _ l.length (l.map (.int .i64)) rfl (by rw [← HZ1.out]; exact HO2.out.alloc _) ⟨w2.heap.size, 0, none⟩ 1 1 [.int .i64 (-1)] rfl rfl ?c1 ?c2 ?c3 ?c4 ?c5 ?_))
  case c1 =>
    intro j u hj
    match j, hj with
    | 0, hj => simp at hj; subst hj; simp [Addr.add]
    | j + 1, hj => simp at hj
  case c2 => intro u hu; simp at hu; subst hu; rfl
  case c3 => unfold maxLen; omega
  case c4 => omega
  case c5 => have h1 := HSZ.out; rw [HZ1.out] at h1; simp; omega
  intro v3 w3 hown hgrow _
  have HLs : Hid (Ls w3 Any v3 (l ++ [-1])) := by
    have h9 : w3.ownsRow (w.heap.size + 1) 3 1 v3 (l ++ [(-1 : Int)]).length ((l ++ [(-1 : Int)]).map (.int .i64)) := by
      rw [List.length_append, List.map_append]; exact hown
    exact Ls.of_own h9
  have HB3 : Hid (Below w.heap.size w w3) := (bl_alloc HB2.out _).grown hgrow (by have h1 := HSZ.out; rw [HZ1.out] at h1; simp; omega) (fun b e => by have h8 := (HO2.out.lt b e).1; rw [HZ1.out] at h8; omega)
  clear hown hgrow
  go_wp2_with (go_at_call 46; refine (max_any _ _ (l ++ [-1]) HLs.out (by simp)).mono ?_; rintro e w4 ⟨rfl, hw⟩; rw [hw]; clear hw w4)
  go_ret
  exact ⟨by rw [HTop.out]; rfl, HB3.out⟩
end Go.Proofs.YtigliglmejkakaaGreat
