/- The gatherer of alive's structure: add, and the methods that find nothing. Memory that a walk writes; an append; a store into a map. How deep; which are right. Shapes of types; labels that rise; which types are right. -/
import Derived.WalkSpells
import Derived.Lib.Walk
import Derived.Deep.QuietTactic
import Derived.Deep.RegionWith
import Derived.BigQuiet
import Derived.Laws.AppendOwn
import Derived.Laws.AppendOwnNone
import Derived.Lib.SliceRun
import Derived.Deep.RegionHeld
import Derived.Laws.ResultCell
import Derived.Laws.StructEq
import Derived.Test.YtigliglmejkakaaGreatProg
import Derived.Test.YtigliglmejkakaaGreatRao
import Derived.Test.YtigliglmejkakaaGreatRaf
namespace Go.Proofs.YtigliglmejkakaaGreat
open Go.RowKit
set_option linter.unusedVariables false
set_option linter.unusedSimpArgs false

theorem info_field : (Tryz.prog.info? 169).map (fun i => (i.zero, i.size, i.bytes)) = some (some (.agg #[.string ByteArray.empty, .nilFunc]), 2, 24) := by kernel_rfl
/-- A gatherer in G, its fields in a row of their own from base on. -/
structure Gt (G base P n : Nat) (v : Value) (xs : List Value) (w : World) : Prop where
  lo : G < base
  le : base ≤ w.heap.size
  g : Arr w G 196 [.pointer (some ⟨P, 0, none⟩), v]
  own : w.ownsRow base 169 2 v n xs
theorem Gt.stays {G base P n : Nat} {v : Value} {xs : List Value} {w w' : World} (h : Gt G base P n v xs w) (hb : Below w.heap.size w w') : Gt G base P n v xs w' := ⟨h.lo, Nat.le_trans h.le hb.size, h.g.stays hb, own_stays h.own hb⟩
/-- A row's block has its type. -/
theorem own_typed {w : World} {base : Nat} {e T : TypeId} {size n b : Nat} {v : Value} {xs cur : List Value} (h : w.ownsRow base e size v n xs) (hA : Arr w b T cur) (hT : T ≠ e) : some b ≠ v.ownBlock := by
  rcases h.2 with ⟨rfl, h0⟩ | ⟨g, cap, cs, rfl, hb, hh, hrest⟩
  · intro h; cases h
  · intro hq
    have hq : some b = some g := hq
    injection hq with hq
    subst hq
    have := hA.b
    rw [hh] at this
    injection this with this
    injection this with h1 h2 h3
    exact hT h2.symm
/-- What add leaves alone. -/
structure Ad (G : Nat) (w w' : World) : Prop where
  size : w.heap.size ≤ w'.heap.size
  bl : Below G w w'
  arr : ∀ (b : Nat) (T : TypeId) (cur : List Value), b ≠ G → T ≠ 169 → Arr w b T cur → Arr w' b T cur

set_option maxHeartbeats 1000000 in
set_option maxRecDepth 100000 in
theorem gadd_any (w : World) (G base P n : Nat) (v : Value) (xs : List Value) (lab : ByteArray) (fn : Fn) (fs bs : Array Value) (h : Gt G base P n v xs w) (hn : n ≤ 1048576) : Calls Tryz.prog 125 #[.pointer (some ⟨G, 0, none⟩), .string lab, .func fn fs bs] w fun e w' => e = .returned (.tuple #[]) ∧ (∃ v', Gt G base P (n + 1) v' (xs ++ [.string lab, .func fn fs bs]) w') ∧ Ad G w w' := by
  obtain ⟨p, c, rfl⟩ := own_form h.own
  have g0 := h.g.cell
  have g1 : ∀ o, (w.alloc o).cell? ⟨G, 1, none⟩ = some (.slice p n c) := fun o => (h.g.stays (bl_alloc (Below.refl _ _) o)).cell 1
  obtain ⟨i0, hi0, hz0, hz1, hz2⟩ := info_parts0 info_field
  have HG := hid h
  clear h
  go_enter Tryz.func125, Tryz.ntmps125
  go_wp2_with (at_builtin; refine wpList_append_own _ rfl _ _ 163 rfl base 169 i0 (.agg #[.string ByteArray.empty, .nilFunc]) 2 24 Tryz.underlying163 hi0 hz0 hz1 hz2 rfl (by decide) _ n xs rfl (HG.out.own.alloc _) ⟨w.heap.size, 0, none⟩ 1 1 [.string lab, .func fn fs bs] rfl rfl ?c1 ?c2 ?c3 ?c4 ?c5 ?_)
  case c1 =>
    intro j u hj
    match j, hj with
    | 0, hj => simp at hj; subst hj; simp [Addr.add]
    | 1, hj => simp at hj; subst hj; simp [Addr.add]
    | j + 2, hj => simp at hj
  case c2 => intro u hu; simp at hu; rcases hu with rfl | rfl <;> rfl
  case c3 => unfold maxLen; omega
  case c4 => omega
  case c5 => have := HG.out.le; simp; omega
  intro v' w2 hown hgrow _
  have HA : Hid (Gt G base P n (.slice p n c) xs (w.alloc (.cells #[.string lab, .func fn fs bs] 169))) := HG.out.stays (bl_alloc (Below.refl _ _) _)
  have hne : some G ≠ (Value.slice p n c).ownBlock := fun e => by have := (HG.out.own.lt G e.symm).1; have := HG.out.lo; omega
  have HG2 : Hid (Arr w2 G 196 [.pointer (some ⟨P, 0, none⟩), .slice p n c]) := HA.out.g.grown hgrow hne
  have x2 := HG2.out.cell
  have z2 := HG2.out.frozen
  obtain ⟨va, vc, rfl⟩ := own_form hown
  have HO := hid hown
  have HGR := hid hgrow
  clear hown hgrow g0 g1
  go_wp2
  first | refine bodyPost_end (results_none rfl _ _ _) rfl ?_ | refine bodyPost_ret (results_none rfl _ _ _) rfl ?_
  have hlo := HG.out.lo
  have hle := HG.out.le
  have hrow' : ∀ b, (Value.slice va (n + 1) vc).ownBlock = some b → base ≤ b := fun b hb => (HO.out.lt b hb).1
  refine ⟨rfl, ⟨_, ⟨hlo, ?_, HG2.out.set 1 _, ?_⟩⟩, ⟨?_, ?_, ?_⟩⟩
  · have := HGR.out.size; simp [World.setCell] at *; omega
  · exact HO.out.kept (row := some G) ⟨rfl, rfl, rfl, by simp [World.setCell], fun b _ hb => Below.heap_setCell _ _ _ _ (fun e => hb (by simp [e]))⟩ (Or.inr (fun e => by have := hrow' _ e; omega))
  · have := HGR.out.size; simp [World.setCell] at *; omega
  · have hB1 : Below G w (w.alloc (.cells #[.string lab, .func fn fs bs] 169)) := (bl_alloc (Below.refl w.heap.size w) _).mono (by omega)
    have hB2 : Below G w w2 := hB1.grown HGR.out (by simp; omega) (fun b e => by have := (HG.out.own.lt b e).1; omega)
    exact hB2.setCell (p := ⟨G, 1, none⟩) (Nat.le_refl _) _
  · intro b T cur hb hT hA
    exact ((hA.stays (bl_alloc (Below.refl _ _) _)).grown HGR.out (own_typed HA.out.own (hA.stays (bl_alloc (Below.refl _ _) _)) hT)).other (p := ⟨G, 1, none⟩) hb _
end Go.Proofs.YtigliglmejkakaaGreat

namespace Go.Proofs.YtigliglmejkakaaGreat.Tgt
open Go.RowKit
set_option linter.unusedVariables false
set_option linter.unusedSimpArgs false

def Enters (f : FuncId) : Prop := ∀ (args : Array Value) (w : World), (callFunc f args).run Tryz.prog w = .ok (.enter f args) w
theorem enters_of {f : FuncId} {fn : Func} {c : Code} (hf : Tryz.prog.funcs[f]? = some fn) (hname : (fn.name == "runtime.NumGoroutine") = false) (hb : fn.body = some c) : Enters f := by
  intro args w
  have h1 : ¬ fn.name = "runtime.NumGoroutine" := fun e => by rw [e] at hname; simp at hname
  simp [callFunc, hf, h1, hb]
theorem ret_bool {a b : Bool} (h : a = b) : Ending.returned (.bool a) = .returned (.bool b) := by rw [h]
theorem ret_int {a b : Int} (h : a = b) : Ending.returned (.int .i64 a) = .returned (.int .i64 b) := by rw [h]
theorem info_parts0 {P : Program} {t : TypeId} {z : Value} {s b : Nat} (h : (P.info? t).map (fun i => (i.zero, i.size, i.bytes)) = some (some z, s, b)) : ∃ i, P.info? t = some i ∧ i.zero = some z ∧ i.size = s ∧ i.bytes = b := by
  cases hi : P.info? t with
  | none => rw [hi] at h; cases h
  | some i =>
    rw [hi] at h
    simp only [Option.map_some, Option.some.injEq, Prod.mk.injEq] at h
    exact ⟨i, rfl, h.1, h.2.1, h.2.2⟩
theorem row_new (w : World) (t : TypeId) (k : Nat) : (w.alloc (.cells #[] t)).ownsRow w.heap.size t k (.slice (some ⟨w.heap.size, 0, none⟩) 0 0) 0 [] := by
  refine ⟨(Nat.zero_mul k).symm, .inr ⟨w.heap.size, 0, #[], rfl, Nat.le_refl _, ?_, Nat.le_refl _, Nat.zero_le _, (Nat.zero_mul k).symm, by simp⟩⟩
  show (w.heap.push _)[w.heap.size]? = _
  simp
theorem bl_dN {w w1 : World} (h : Below w.heap.size w w1) (n : Nat) : Below w.heap.size w (w1.drewN n) := bl_tr h (bl_drewN _ _)
theorem bl_dr {w w1 : World} (h : Below w.heap.size w w1) : Below w.heap.size w w1.drew := h.drew
theorem bl_set {w w1 : World} (p : Addr) (u : Value) (h : Below w.heap.size w w1) (hp : w.heap.size ≤ p.block) : Below w.heap.size w (w1.setCell p u) := h.setCell hp u

/-- A block that holds these values, and may be written. -/
structure Arr (w : World) (g : Nat) (T : TypeId) (cur : List Value) : Prop where
  b : w.heap[g]? = some (.cells cur.toArray T (0, 0))
theorem Arr.lt {w : World} {g : Nat} {T : TypeId} {cur : List Value} (h : Arr w g T cur) : g < w.heap.size := by
  rcases Nat.lt_or_ge g w.heap.size with h' | h'
  · exact h'
  · have := h.b; simp [Array.getElem?_eq_none h'] at this
theorem Arr.cell {w : World} {g : Nat} {T : TypeId} {cur : List Value} (h : Arr w g T cur) (j : Nat) : w.cell? ⟨g, j, none⟩ = cur[j]? := by rw [cell_at h.b]; simp
theorem Arr.frozen {w : World} {g : Nat} {T : TypeId} {cur : List Value} (h : Arr w g T cur) (j : Nat) : w.frozen? ⟨g, j, none⟩ = false := by simp [World.frozen?, h.b]
theorem Arr.set {w : World} {g : Nat} {T : TypeId} {cur : List Value} (h : Arr w g T cur) (j : Nat) (u : Value) : Arr (w.setCell ⟨g, j, none⟩ u) g T (cur.set j u) := by
  constructor
  simp [World.setCell, Array.getElem?_modify, h.b]
theorem Arr.stays {w w' : World} {g : Nat} {T : TypeId} {cur : List Value} (h : Arr w g T cur) (hb : Below w.heap.size w w') : Arr w' g T cur := ⟨by rw [hb.block g h.lt]; exact h.b⟩
theorem Arr.other {w : World} {g : Nat} {T : TypeId} {cur : List Value} (h : Arr w g T cur) {p : Addr} (hp : g ≠ p.block) (u : Value) : Arr (w.setCell p u) g T cur := ⟨by rw [Below.heap_setCell _ _ _ _ hp]; exact h.b⟩
/-- vs stands in cur from o on. -/
def Seg (cur : List Value) (o : Nat) (vs : List Value) : Prop := ∀ (j : Nat) v, vs[j]? = some v → cur[o + j]? = some v
theorem Seg.cells {w : World} {g : Nat} {T : TypeId} {cur : List Value} (h : Arr w g T cur) {o : Nat} {vs : List Value} (hs : Seg cur o vs) : Cells w g o vs := fun j v hv => (h.cell _).trans (hs j v hv)
theorem Keeps.set {K : Nat → Prop} {w : World} {p : Addr} (hp : ¬ K p.block) (u : Value) : Keeps K w (w.setCell p u) := fun b o v hb hv => by
  rw [World.cell?_of_block (w := w) (Below.heap_setCell _ _ _ _ (fun e => hp (show K p.block from e ▸ hb)))]
  exact hv
theorem Ev.set {own o1 : Nat → Prop} {w w1 : World} (h : Ev own w o1 w1) {p : Addr} (hp : o1 p.block) (u : Value) : Ev own w o1 (w1.setCell p u) :=
  h.trans ⟨rfl, rfl, rfl, by simp [World.setCell], fun _ h => .inl h, fun b hb hn => Below.heap_setCell _ _ _ _ (fun e => hn (e ▸ hp))⟩
/-- The row of an append is the old one, or a new one. -/
def Fresh (w : World) (v v' : Value) : Prop := v'.ownBlock = v.ownBlock ∨ ∀ k, v'.ownBlock = some k → w.heap.size ≤ k
theorem append_own2 {P : Program} (w : World) (base : Nat) (t ty e : TypeId) (i : TypeInfo) (z : Value) (size bytes : Nat) (ht : P.underlying t = some (.slice e)) (hi : P.info? e = some i) (hz : i.zero = some z)
    (hsize : i.size = size) (hby : i.bytes = bytes) (hzs : z.cells.size = size) (hsz : 0 < size) (v : Value) (n : Nat) (xs : List Value) (hown : w.ownsRow base e size v n xs)
    (a : Addr) (m c : Nat) (news : List Value) (hl : news.length = m * size) (hnews : ∀ j u, news[j]? = some u → w.cell? (a.add j) = some u) (h1 : ∀ u ∈ news, u.oneCell' = true)
    (h63 : n + m ≤ maxLen) (hbytes : (n + m) * bytes ≤ 140737488355328) (hbase : base ≤ w.heap.size) :
    ∃ v' w', (Builtin.append_ #[t, t] ty #[v, .slice (some a) m c]).run P w = .ok v' w' ∧ w'.ownsRow base e size v' (n + m) (xs ++ news) ∧ w.grownBy w' v.ownBlock ∧ Fresh w v v' := by
  obtain ⟨v', w', hr, h2, h3, -⟩ := run_append_own (P := P) w base t ty e i z size bytes ht hi hz hsize hby hzs hsz v n xs hown a m c news hl hnews h1 h63 hbytes hbase
  refine ⟨v', w', hr, h2, h3, ?_⟩
  rcases hown.2 with ⟨hv, hn⟩ | ⟨g, cap, cur, hv, hbg, hg, hnc, hcm, hcs, htake⟩
  · have ho : w.ownsRow w.heap.size e size v n xs := ⟨hown.1, .inl ⟨hv, hn⟩⟩
    obtain ⟨v2, w2, hr2, h22, -, -⟩ := run_append_own (P := P) w w.heap.size t ty e i z size bytes ht hi hz hsize hby hzs hsz v n xs ho a m c news hl hnews h1 h63 hbytes (Nat.le_refl _)
    rw [hr] at hr2
    injection hr2 with e1 e2
    subst e1
    exact .inr fun k hk => (h22.lt k hk).1
  · subst hsize
    subst hby
    subst hv
    by_cases hroom : n + m ≤ cap
    · have hfit : n * i.size + news.length ≤ cur.size := by rw [hl, hcs, ← Nat.add_mul]; exact Nat.mul_le_mul_right _ hroom
      rw [run_append_room (P := P) w t ty e i ht hi g n cap cur hg a m c news hl hnews h1 hroom hfit] at hr
      injection hr with e1 e2
      subst e1
      exact .inl rfl
    · have h63' : ((n + m : Nat) : Int) ≤ 9223372036854775807 := by simp only [maxLen] at h63; omega
      rw [run_append_grow (P := P) w t ty e i z ht hi hz ⟨g, 0, none⟩ n cap xs hown.1 (hown.cells (g := g) rfl) a m c news hl hnews (by omega) h63' (growslice_fits (by omega) hbytes)] at hr
      injection hr with e1 e2
      subst e1
      refine .inr fun k hk => ?_
      simp [Value.ownBlock] at hk
      omega
/-- Such an append, as one operation of a region that draws its order. -/
theorem step_append2 {P : Program} {ops : Array Oper} {o : Oper} {a : Act} {w : World} {K : Act → World → Prop} {Q : Exit → Act → World → Prop} {E : Prop}
    (hgd : o.guard = none) (s x : Operand) (t : TypeId) (hop : o.op = .call { callee := .builtin .append, args := #[s, x], argTypes := #[t, t] })
    (base : Nat) (e : TypeId) (i : TypeInfo) (z : Value) (size bytes : Nat) (ht : P.underlying t = some (.slice e)) (hi : P.info? e = some i) (hz : i.zero = some z)
    (hsize : i.size = size) (hby : i.bytes = bytes) (hzs : z.cells.size = size) (hsz : 0 < size) (v : Value) (n : Nat) (xs : List Value) (hs : a.eval s = v) (hown : w.ownsRow base e size v n xs)
    (ad : Addr) (m c : Nat) (news : List Value) (hx : a.eval x = .slice (some ad) m c) (hl : news.length = m * size) (hnews : ∀ j u, news[j]? = some u → w.cell? (ad.add j) = some u) (h1 : ∀ u ∈ news, u.oneCell' = true)
    (h63 : n + m ≤ maxLen) (hbytes : (n + m) * bytes ≤ 140737488355328) (hbase : base ≤ w.heap.size)
    (hK : ∀ v' w', w'.ownsRow base e size v' (n + m) (xs ++ news) → w.grownBy w' v.ownBlock → Fresh w v v' → K (a.put o.dst v') w') :
    if Region.wanted o (yielded ops a.tmps) = true then Oper.wp P o a w K Q else E := by
  have hw : Region.wanted o (yielded ops a.tmps) = true := by simp [Region.wanted, hgd]
  rw [if_pos hw]
  obtain ⟨v', w', hr, h2, h3, h4⟩ := append_own2 (P := P) w base t o.type e i z size bytes ht hi hz hsize hby hzs hsz v n xs hown ad m c news hl hnews h1 h63 hbytes hbase
  unfold Oper.wp execOp
  simp only [hop, resolve, invoke, builtin, Sem.run_bind, Sem.run_pure, Result.andThen_ok, List.map_toArray, List.map_cons, List.map_nil, hs, hx, hr]
  exact hK v' w' h2 h3 h4
theorem Ev.grown {own : Nat → Prop} {w w' : World} {row : Option Nat} (hg : w.grownBy w' row) (ho : ∀ b, row = some b → own b) : Ev own w own w' := by
  obtain ⟨h1, h2, h3, h4, h5⟩ := hg
  exact ⟨h1, h2, h3, h4, fun _ h => .inl h, fun b hb hn => h5 b hb (fun e => hn (ho b e.symm))⟩
theorem step_mapUpdate {P : Program} {ops : Array Oper} {o : Oper} {a : Act} {w w' : World} {K : Act → World → Prop} {Q : Exit → Act → World → Prop} {E : Prop} (hgd : o.guard = none) (m x v : Operand) (t : TypeId) (hop : o.op = .mapUpdate t m x v) (vm vx vv : Value) (hm : a.eval m = vm) (hx : a.eval x = vx) (hv : a.eval v = vv)
    (hr : (Instr.mapUpdate t vm vx vv).run P w = .ok () w') (hK : K (a.put o.dst undef) w') : if Region.wanted o (yielded ops a.tmps) = true then Oper.wp P o a w K Q else E := by
  have hw : Region.wanted o (yielded ops a.tmps) = true := by simp [Region.wanted, hgd]
  rw [if_pos hw]
  unfold Oper.wp
  simp [execOp, hop, hm, hx, hv, hr, Result.andThen]
  exact hK
theorem addr_add' (b o k : Nat) : (⟨b, o, none⟩ : Addr).add k = ⟨b, o + k, none⟩ := by
  cases k <;> rfl
/-- An append whose run is known. -/
theorem wpList_app {P : Program} {ops : Array Oper} {rest : List Oper} {o : Oper} {a : Act} {w : World} {Q : Exit → Act → World → Prop} (hgd : o.guard = none) (s x : Operand) (t : TypeId)
    (ho : o.op = .call { callee := .builtin .append, args := #[s, x], argTypes := #[t, t] }) (v vx : Value) (hs : a.eval s = v) (hx : a.eval x = vx) (v' : Value) (w' : World)
    (hr : (Builtin.append_ #[t, t] o.type #[v, vx]).run P w = .ok v' w') (h : wpList P ops Q rest (a.put o.dst v') w') : wpList P ops Q (o :: rest) a w := by
  refine wpList_plain hgd fun _ hK => ?_
  unfold Oper.wp execOp
  simp only [ho, resolve, invoke, builtin, Sem.run_bind, Sem.run_pure, Result.andThen_ok, List.map_toArray, List.map_cons, List.map_nil, hs, hx, hr]
  exact hK _ _ h
theorem results_cell1 {fn : Func} {p : Tmp} {ty : TypeId} (h : fn.results = #[.cell p ty]) (tmps : Array Value) (P : Program) (w : World) :
    (results fn tmps).run P w = ((asAddr (tmps.getD p undef)).run P w).andThen fun a w₁ => ((loadVar ty a).run P w₁) := by
  simp only [results, h]
  simp [Sem.run_bind, Result.andThen]
theorem set_same {vs : List Value} {j : Nat} {v : Value} (h : vs[j]? = some v) : vs.set j v = vs := by
  apply List.ext_getElem?
  intro i
  rw [List.getElem?_set]
  have h1 := (List.getElem?_eq_some_iff.1 h).1
  split
  · rename_i h2; subst h2; rw [h]
  · rfl
theorem hid {p : Prop} (h : p) : Hid p := h
theorem bl_on {B : Nat} {W w w' : World} (h : Below B W w) (hb : Below w.heap.size w w') (hB : B ≤ w.heap.size := by first | exact Nat.le_trans (by assumption) (Below.size (by assumption)) | exact Below.size (by assumption)) : Below B W w' := h.trans (hb.mono hB)
theorem bl_put {B : Nat} {W w : World} (h : Below B W w) {p : Addr} (v : Value) (hp : B ≤ p.block) : Below B W (w.setCell p v) := h.setCell hp v
end Go.Proofs.YtigliglmejkakaaGreat.Tgt

namespace Go.Proofs.YtigliglmejkakaaGreat.Tgt
open Go.RowKit
set_option linter.unusedVariables false
set_option linter.unusedSimpArgs false

def DeepOf (n : Nat) : Prop := ∀ (w : World) (b o : Nat) (t : Tt) (d : Int), PAt w Any n b o t → 0 ≤ d → d ≤ 100001 →
  Calls Tryz.prog 28 #[.pointer (some ⟨b, o, none⟩), .int .i64 d] w fun e w' => e = .returned (.bool (decide (100000 < d + t.deepest - 1))) ∧ w' = w
def DeepsOf (n : Nat) : Prop := ∀ (w : World) (v : Value) (l : List Tt) (d : Int), TAtL w Any n v l → 0 ≤ d → d ≤ 100001 →
  Calls Tryz.prog 60 #[v, .int .i64 d] w fun e w' => e = .returned (.bool (decide (100000 < d + Tt.deepestL l - 1))) ∧ w' = w

set_option maxHeartbeats 1000000 in
set_option maxRecDepth 100000 in
theorem deeps_step (n : Nat) (ih : DeepOf n) : DeepsOf n := by
  intro w v l d hL h0 h1
  obtain ⟨a, c, rfl, hm⟩ := hL.form
  unfold maxLen at hm
  have HL : Hid (TAtL w Any n (.slice a l.length c) l) := hL
  clear hL
  go_enter Tryz.func60, Tryz.ntmps60
  go_wp2
  go_loopw [8] (fun v wr => ∃ k : Nat, v = .int .i64 k ∧ k ≤ l.length ∧ Hid (decide (100000 < d + Tt.deepestL l - 1) = decide (100000 < d + Tt.deepestL (l.drop k) - 1)) ∧ wr = w) (fun v _ => l.length - (intOf v).toNat)
  case atStart => exact ⟨0, rfl, Nat.zero_le _, rfl, rfl⟩
  case round =>
    obtain ⟨k, rfl, hkl, hH, rfl⟩ := hrel
    by_cases hlt : k < l.length
    · obtain ⟨x, hxk⟩ : ∃ x, l[k]? = some x := ⟨_, List.getElem?_eq_getElem hlt⟩
      obtain ⟨b, o, rfl, hP⟩ := HL.out.elem hxk
      have HX : Hid (decide (100000 < d + Tt.deepestL l - 1) = decide (100000 < d + (max x.deepest (Tt.deepestL (l.drop (k + 1))) : Nat) - 1)) := by
        show _ = _
        rw [hH.out, Tt.deepestL_drop hxk]
      have HQ : Hid (Calls Tryz.prog 28 #[.pointer (some ⟨b, o + k * 4, none⟩), .int .i64 d] wr fun e w' => e = .returned (.bool (decide (100000 < d + x.deepest - 1))) ∧ w' = wr) := ih wr b _ x d hP h0 h1
      clear hP hH
      generalize hD : l.drop (k + 1) = l' at HX
      have HD : Hid (l.drop (k + 1) = l') := hD
      clear hD
      by_cases hd : 100000 < d + (x.deepest : Int) - 1
      · have e1 : decide (100000 < d + (x.deepest : Int) - 1) = true := decide_eq_true hd
        have e2 : decide (100000 < d + ((max x.deepest (Tt.deepestL l') : Nat) : Int) - 1) = true := decide_eq_true (by omega)
        rw [e1] at HQ
        rw [e2] at HX
        clear e1 e2 hd h0 h1
        go_wp2_with (go_at_call 28; refine (HQ.out).mono ?_; rintro e w3 ⟨rfl, hw⟩; rw [hw]; clear hw w3)
        go_ret
        exact ⟨ret_bool HX.out.symm, rfl⟩
      · have e1 : decide (100000 < d + (x.deepest : Int) - 1) = false := decide_eq_false hd
        have e2 : decide (100000 < d + ((max x.deepest (Tt.deepestL l') : Nat) : Int) - 1) = decide (100000 < d + (Tt.deepestL l' : Int) - 1) := by
          apply decide_eq_decide.2
          omega
        rw [e1] at HQ
        rw [e2, ← HD.out] at HX
        clear e1 e2 hd h0 h1
        go_wp2_with (go_at_call 28; refine (HQ.out).mono ?_; rintro e w3 ⟨rfl, hw⟩; rw [hw]; clear hw w3)
        go_roundw
        case rel => exact ⟨k + 1, by go_num, by omega, HX, trivial⟩
        case measure => simp [intOf]; omega
    · have HX : Hid (decide (100000 < d + Tt.deepestL l - 1) = false) := by
        show _ = _
        rw [hH.out, List.drop_eq_nil_of_le (by omega), Tt.deepestL]
        exact decide_eq_false (by simp; omega)
      clear hH HL h0 h1
      go_wp2
      go_ret
      exact ⟨ret_bool HX.out.symm, rfl⟩

set_option maxHeartbeats 1000000 in
set_option maxRecDepth 100000 in
theorem deep_step (n : Nat) (ih : DeepsOf n) : DeepOf (n + 1) := by
  intro w b o t d hP h0 h1
  obtain ⟨a', c', a, c, e0, e1, e2, e3, hk, hn, hS, hL⟩ := hP.cells
  rw [Tt.deepest_ks]
  by_cases hd : 100000 < d
  · have q : decide (100000 < d + ((Tt.deepestL t.ks + 1 : Nat) : Int) - 1) = true := decide_eq_true (by omega)
    rw [q]
    clear q ih hL hS hP
    go_enter Tryz.func28, Tryz.ntmps28
    go_wp2
    go_ret
    exact ⟨rfl, rfl⟩
  · have HQ : Hid (Calls Tryz.prog 60 #[.slice a t.ks.length c, .int .i64 (d + 1)] w fun e w' => e = .returned (.bool (decide (100000 < (d + 1) + Tt.deepestL t.ks - 1))) ∧ w' = w) := ih w _ t.ks (d + 1) hL (by omega) (by omega)
    have q : decide (100000 < d + ((Tt.deepestL t.ks + 1 : Nat) : Int) - 1) = decide (100000 < (d + 1) + (Tt.deepestL t.ks : Int) - 1) := by
      apply decide_eq_decide.2
      omega
    rw [q]
    clear q ih hL hS hP e0 e1 e2 hk hn
    generalize decide (100000 < (d + 1) + (Tt.deepestL t.ks : Int) - 1) = r at HQ
    go_enter Tryz.func28, Tryz.ntmps28
    go_wp2_with (go_at_call 60; refine (HQ.out).mono ?_; rintro e w3 ⟨rfl, hw⟩; rw [hw]; clear hw w3)
    go_ret
    exact ⟨rfl, rfl⟩
theorem deep_any : ∀ n, DeepOf n
  | 0 => fun w b o t d h => by obtain ⟨m, e⟩ := h.pos; cases e
  | n + 1 => deep_step n (deeps_step n (deep_any n))
end Go.Proofs.YtigliglmejkakaaGreat.Tgt

namespace Go.Proofs.YtigliglmejkakaaGreat.Tgt
open Go.RowKit
set_option linter.unusedVariables false
set_option linter.unusedSimpArgs false

/-- The nearest shape: number, labels, parts; is there such a kind? -/
def Tt.near (k n c : Int) : (Int × Int × Int) × Bool :=
  if k = 1 ∨ k = 2 ∨ k = 3 then ((0, 0, 0), true)
  else if k = 4 ∨ k = 5 then ((0, 0, 2), true)
  else if k = 6 then ((n, 0, 0), true)
  else if k = 7 then ((0, c, c), true)
  else if k = 8 then ((0, 0, c), true)
  else if k = 9 ∨ k = 10 ∨ k = 11 then ((n, 0, 1), true)
  else ((0, 0, 0), false)
def shp (p : Int × Int × Int) : Value := .agg #[.int .i64 p.1, .int .i64 p.2.1, .int .i64 p.2.2]

set_option maxHeartbeats 4000000 in
set_option maxRecDepth 100000 in
theorem near_any (w : World) (k n l c : Int) : Calls Tryz.prog 61 #[.int .i64 k, .agg #[.int .i64 n, .int .i64 l, .int .i64 c]] w fun e w' => e = .returned (.tuple #[shp (Tt.near k n c).1, .bool (Tt.near k n c).2]) ∧ Below w.heap.size w w' := by
  have done : ∀ (u : World) (p : Int × Int × Int) (b : Bool), Tt.near k n c = (p, b) → Below w.heap.size w u → (Ending.returned (.tuple #[shp p, .bool b]) = .returned (.tuple #[shp (Tt.near k n c).1, .bool (Tt.near k n c).2]) ∧ Below w.heap.size w u) := fun u p b h hb => by rw [h]; exact ⟨rfl, hb⟩
  have D : Hid _ := done
  clear done
  by_cases h1 : k = 1
  · subst h1
    go_enter Tryz.func61, Tryz.ntmps61
    go_wp2
    refine bodyPost_ret (v := .tuple #[shp ((0, 0, 0)), .bool true]) (by rw [results_cell_tmp (fn := Tryz.f61) (p := 4) (u := 5) (ty := 138) (by kernel_rfl)]; simp [go_sem, shp]) rfl ?_
    exact D.out _ _ _ (by simp [Tt.near]) (bl_alloc (bl_alloc (Below.refl _ _) _) _)
  by_cases h2 : k = 2
  · subst h2
    go_enter Tryz.func61, Tryz.ntmps61
    go_wp2
    refine bodyPost_ret (v := .tuple #[shp ((0, 0, 0)), .bool true]) (by rw [results_cell_tmp (fn := Tryz.f61) (p := 4) (u := 5) (ty := 138) (by kernel_rfl)]; simp [go_sem, shp]) rfl ?_
    exact D.out _ _ _ (by simp [Tt.near]) (bl_alloc (bl_alloc (Below.refl _ _) _) _)
  by_cases h3 : k = 3
  · subst h3
    go_enter Tryz.func61, Tryz.ntmps61
    go_wp2
    refine bodyPost_ret (v := .tuple #[shp ((0, 0, 0)), .bool true]) (by rw [results_cell_tmp (fn := Tryz.f61) (p := 4) (u := 5) (ty := 138) (by kernel_rfl)]; simp [go_sem, shp]) rfl ?_
    exact D.out _ _ _ (by simp [Tt.near]) (bl_alloc (bl_alloc (Below.refl _ _) _) _)
  by_cases h4 : k = 4
  · subst h4
    go_enter Tryz.func61, Tryz.ntmps61
    go_wp2
    refine bodyPost_ret (v := .tuple #[shp ((0, 0, 2)), .bool true]) (by rw [results_cell_tmp (fn := Tryz.f61) (p := 4) (u := 5) (ty := 138) (by kernel_rfl)]; simp [go_sem, shp]) rfl ?_
    exact D.out _ _ _ (by simp [Tt.near]) (bl_alloc (bl_alloc (Below.refl _ _) _) _)
  by_cases h5 : k = 5
  · subst h5
    go_enter Tryz.func61, Tryz.ntmps61
    go_wp2
    refine bodyPost_ret (v := .tuple #[shp ((0, 0, 2)), .bool true]) (by rw [results_cell_tmp (fn := Tryz.f61) (p := 4) (u := 5) (ty := 138) (by kernel_rfl)]; simp [go_sem, shp]) rfl ?_
    exact D.out _ _ _ (by simp [Tt.near]) (bl_alloc (bl_alloc (Below.refl _ _) _) _)
  by_cases h6 : k = 6
  · subst h6
    go_enter Tryz.func61, Tryz.ntmps61
    go_wp2
    refine bodyPost_ret (v := .tuple #[shp ((n, 0, 0)), .bool true]) (by rw [results_cell_tmp (fn := Tryz.f61) (p := 4) (u := 5) (ty := 138) (by kernel_rfl)]; simp [go_sem, shp]) rfl ?_
    exact D.out _ _ _ (by simp [Tt.near]) (bl_alloc (bl_alloc (Below.refl _ _) _) _)
  by_cases h7 : k = 7
  · subst h7
    go_enter Tryz.func61, Tryz.ntmps61
    go_wp2
    refine bodyPost_ret (v := .tuple #[shp ((0, c, c)), .bool true]) (by rw [results_cell_tmp (fn := Tryz.f61) (p := 4) (u := 5) (ty := 138) (by kernel_rfl)]; simp [go_sem, shp]) rfl ?_
    exact D.out _ _ _ (by simp [Tt.near]) (bl_alloc (bl_alloc (Below.refl _ _) _) _)
  by_cases h8 : k = 8
  · subst h8
    go_enter Tryz.func61, Tryz.ntmps61
    go_wp2
    refine bodyPost_ret (v := .tuple #[shp ((0, 0, c)), .bool true]) (by rw [results_cell_tmp (fn := Tryz.f61) (p := 4) (u := 5) (ty := 138) (by kernel_rfl)]; simp [go_sem, shp]) rfl ?_
    exact D.out _ _ _ (by simp [Tt.near]) (bl_alloc (bl_alloc (Below.refl _ _) _) _)
  by_cases h9 : k = 9
  · subst h9
    go_enter Tryz.func61, Tryz.ntmps61
    go_wp2
    refine bodyPost_ret (v := .tuple #[shp ((n, 0, 1)), .bool true]) (by rw [results_cell_tmp (fn := Tryz.f61) (p := 4) (u := 5) (ty := 138) (by kernel_rfl)]; simp [go_sem, shp]) rfl ?_
    exact D.out _ _ _ (by simp [Tt.near]) (bl_alloc (bl_alloc (Below.refl _ _) _) _)
  by_cases h10 : k = 10
  · subst h10
    go_enter Tryz.func61, Tryz.ntmps61
    go_wp2
    refine bodyPost_ret (v := .tuple #[shp ((n, 0, 1)), .bool true]) (by rw [results_cell_tmp (fn := Tryz.f61) (p := 4) (u := 5) (ty := 138) (by kernel_rfl)]; simp [go_sem, shp]) rfl ?_
    exact D.out _ _ _ (by simp [Tt.near]) (bl_alloc (bl_alloc (Below.refl _ _) _) _)
  by_cases h11 : k = 11
  · subst h11
    go_enter Tryz.func61, Tryz.ntmps61
    go_wp2
    refine bodyPost_ret (v := .tuple #[shp ((n, 0, 1)), .bool true]) (by rw [results_cell_tmp (fn := Tryz.f61) (p := 4) (u := 5) (ty := 138) (by kernel_rfl)]; simp [go_sem, shp]) rfl ?_
    exact D.out _ _ _ (by simp [Tt.near]) (bl_alloc (bl_alloc (Below.refl _ _) _) _)
  have N : Hid (Tt.near k n c = ((0, 0, 0), false)) := by show _ = _; simp [Tt.near, h1, h2, h3, h4, h5, h6, h7, h8, h9, h10, h11]
  have g1 : (k == 1) = false := by simpa using h1
  have g2 : (k == 2) = false := by simpa using h2
  have g3 : (k == 3) = false := by simpa using h3
  have g4 : (k == 4) = false := by simpa using h4
  have g5 : (k == 5) = false := by simpa using h5
  have g6 : (k == 6) = false := by simpa using h6
  have g7 : (k == 7) = false := by simpa using h7
  have g8 : (k == 8) = false := by simpa using h8
  have g9 : (k == 9) = false := by simpa using h9
  have g10 : (k == 10) = false := by simpa using h10
  have g11 : (k == 11) = false := by simpa using h11
  clear h1 h2 h3 h4 h5 h6 h7 h8 h9 h10 h11
  go_enter Tryz.func61, Tryz.ntmps61
  go_wp2
  refine bodyPost_ret (v := .tuple #[shp ((0, 0, 0)), .bool false]) (by rw [results_cell_tmp (fn := Tryz.f61) (p := 4) (u := 5) (ty := 138) (by kernel_rfl)]; simp [go_sem, shp]) rfl ?_
  exact D.out _ _ _ N.out (bl_alloc (bl_alloc (Below.refl _ _) _) _)

set_option maxRecDepth 100000 in
theorem eq_shape (w : World) (a b c a' b' c' : Int) : (binOp .eql 138 (.agg #[.int .i64 a, .int .i64 b, .int .i64 c]) (.agg #[.int .i64 a', .int .i64 b', .int .i64 c'])).run Tryz.prog w = .ok (.bool (a == a' && (b == b' && c == c'))) w := by
  have hp : Tryz.prog.stoodInHeld 138 = false := by kernel_rfl
  have hf : Tryz.prog.underlying 138 = some (.struct (Tryz.prog.fieldsOf 138)) := by kernel_rfl
  rw [run_eql_struct, run_equalIn_struct w 9999 _ _ _ hf hp]
  simp [go_sem, Program.fieldsOf]
  by_cases h1 : a = a' <;> by_cases h2 : b = b' <;> by_cases h3 : c = c' <;> simp [h1, h2, h3]
def Tt.less (a b : ByteArray) : Bool := Op.bytesLess a.toList b.toList
/-- Are the texts in order, each once? -/
def Tt.rise : List ByteArray → Bool
  | [] => true
  | [_] => true
  | a :: b :: r => Tt.less a b && Tt.rise (b :: r)
theorem Tt.rise_at {l : List ByteArray} {j : Nat} {a b : ByteArray} (ha : l[j]? = some a) (hb : l[j + 1]? = some b) : Tt.rise (l.drop j) = (Tt.less a b && Tt.rise (l.drop (j + 1))) := by
  obtain ⟨h1, rfl⟩ := List.getElem?_eq_some_iff.1 ha
  obtain ⟨h2, rfl⟩ := List.getElem?_eq_some_iff.1 hb
  rw [List.drop_eq_getElem_cons h1, List.drop_eq_getElem_cons h2, Tt.rise]
theorem Tt.rise_short {l : List ByteArray} (h : l.length ≤ 1) : Tt.rise l = true := by
  match l, h with
  | [], _ => rfl
  | [_], _ => rfl
theorem geq_str (a b : ByteArray) : binOp .geq 9 (.string a) (.string b) = pure (.bool !(Tt.less a b)) := by simp [binOp, Op.stringOp, Tt.less]

set_option maxHeartbeats 1000000 in
set_option maxRecDepth 100000 in
theorem rising_any (w : World) (v : Value) (l : List ByteArray) (h : Sl w Any v l) : Calls Tryz.prog 62 #[v] w fun e w' => e = .returned (.bool (Tt.rise l)) ∧ Below w.heap.size w w' := by
  obtain ⟨a, c, rfl, hm⟩ := h.form
  unfold maxLen at hm
  have HL : Hid (Sl w Any (.slice a l.length c) l) := h
  have hge := geq_str
  clear h
  go_enter Tryz.func62, Tryz.ntmps62
  go_wp2
  go_loopw [3] (fun v wr => ∃ j : Nat, v = .int .i64 (j + 1) ∧ (j + 1 ≤ l.length ∨ j = 0) ∧ Hid (Tt.rise l = Tt.rise (l.drop j)) ∧ Below w.heap.size w wr) (fun v _ => l.length - (intOf v).toNat)
  case atStart => exact ⟨0, rfl, .inr rfl, rfl, Below.refl _ _⟩
  case round =>
    obtain ⟨j, rfl, hjl, hH, hB⟩ := hrel
    by_cases hlt : j + 1 < l.length
    · obtain ⟨x, hx⟩ : ∃ x, l[j]? = some x := ⟨_, List.getElem?_eq_getElem (by omega)⟩
      obtain ⟨y, hy⟩ : ∃ y, l[j + 1]? = some y := ⟨_, List.getElem?_eq_getElem (by omega)⟩
      obtain ⟨b, o, rfl, cx, cy⟩ : ∃ b o, a = some ⟨b, o, none⟩ ∧ wr.cell? ⟨b, o + j, none⟩ = some (.string x) ∧ wr.cell? ⟨b, o + (j + 1), none⟩ = some (.string y) := by
        rcases HL.out with ⟨b, o, c', hv, -, -, -, hc⟩ | ⟨rfl, -⟩
        · injection hv with e1 e2 e3
          exact ⟨b, o, e1, Keeps.of_below (K := Any) hB b _ _ trivial (hc j x hx), Keeps.of_below (K := Any) hB b _ _ trivial (hc (j + 1) y hy)⟩
        · simp at hx
      have HX : Hid (Tt.rise l = (Tt.less x y && Tt.rise (l.drop (j + 1)))) := hH.out.trans (Tt.rise_at hx hy)
      have hlt2 : (j : Int) + 1 < l.length := by omega
      have hw : IntKind.i64.wrap ((j : Int) + 1 - 1) = j := by rw [IntKind.wrap_i64]; omega
      have HB : Hid (Below w.heap.size w wr) := hB
      clear hH HL hx hy hB hjl
      cases hxy : Tt.less x y with
      | true =>
        rw [hxy, Bool.true_and] at HX
        go_wp2
        go_quiet (fail)
        go_wp2
        go_roundw
        case rel => exact ⟨j + 1, by go_num, .inl (by omega), HX, bl_dN HB.out _⟩
        case measure => simp [intOf]; omega
      | false =>
        rw [hxy, Bool.false_and] at HX
        go_wp2
        go_quiet (fail)
        go_wp2
        go_ret
        exact ⟨ret_bool HX.out.symm, bl_dN HB.out _⟩
    · have HX : Hid (Tt.rise l = true) := hH.out.trans (Tt.rise_short (by rw [List.length_drop]; omega))
      have hlt2 : ¬ (j : Int) + 1 < l.length := by omega
      clear hH HL hjl
      go_wp2
      go_ret
      exact ⟨ret_bool HX.out.symm, hB⟩
end Go.Proofs.YtigliglmejkakaaGreat.Tgt
