/- The gatherer of alive's structure: add, and the methods that find nothing. Memory that a walk writes; an append; a store into a map. How deep; which are right. Shapes of types; labels that rise; which types are right. Which types are right. What is bound: a map and a list of what was hidden. A scope's own: depth, find, bind. A scope's back. A walker's own: here, into, back; what binds. -/
import Derived.WalkSpells
import Derived.Lib.Walk
import Derived.Deep.QuietTactic
import Derived.Deep.RegionWith
import Derived.BigQuiet
import Derived.Laws.AppendOwn
import Derived.Laws.AppendOwnNone
import Derived.Lib.SliceRun
import Derived.Deep.RegionHeld
import Derived.Laws.ResultCell
import Derived.Laws.StructEq
import Derived.Test.YtigliglmejkakabProg
import Derived.Maps.OwnSet
import Derived.Carry
import Derived.Test.YtigliglmejkakabQao
import Derived.Test.YtigliglmejkakabQaf
namespace Go.Proofs.Ytigliglmejkakab
open Go.RowKit
set_option linter.unusedVariables false
set_option linter.unusedSimpArgs false

theorem info_field : (Try.prog.info? 57).map (fun i => (i.zero, i.size, i.bytes)) = some (some (.agg #[.string ByteArray.empty, .nilFunc]), 2, 24) := by kernel_rfl
/-- A gatherer in G, its fields in a row of their own from base on. -/
structure Gt (G base P n : Nat) (v : Value) (xs : List Value) (w : World) : Prop where
  lo : G < base
  le : base ≤ w.heap.size
  g : Arr w G 69 [.pointer (some ⟨P, 0, none⟩), v]
  own : w.ownsRow base 57 2 v n xs
theorem Gt.stays {G base P n : Nat} {v : Value} {xs : List Value} {w w' : World} (h : Gt G base P n v xs w) (hb : Below w.heap.size w w') : Gt G base P n v xs w' := ⟨h.lo, Nat.le_trans h.le hb.size, h.g.stays hb, own_stays h.own hb⟩
/-- A row's block has its type. -/
theorem own_typed {w : World} {base : Nat} {e T : TypeId} {size n b : Nat} {v : Value} {xs cur : List Value} (h : w.ownsRow base e size v n xs) (hA : Arr w b T cur) (hT : T ≠ e) : some b ≠ v.ownBlock := by
  rcases h.2 with ⟨rfl, h0⟩ | ⟨g, cap, cs, rfl, hb, hh, hrest⟩
  · intro h; cases h
  · intro hq
    have hq : some b = some g := hq
    injection hq with hq
    subst hq
    have := hA.b
    rw [hh] at this
    injection this with this
    injection this with h1 h2 h3
    exact hT h2.symm
/-- What add leaves alone. -/
structure Ad (G : Nat) (w w' : World) : Prop where
  size : w.heap.size ≤ w'.heap.size
  bl : Below G w w'
  arr : ∀ (b : Nat) (T : TypeId) (cur : List Value), b ≠ G → T ≠ 57 → Arr w b T cur → Arr w' b T cur

set_option maxHeartbeats 1000000 in
set_option maxRecDepth 100000 in
theorem gadd_any (w : World) (G base P n : Nat) (v : Value) (xs : List Value) (lab : ByteArray) (fn : Fn) (fs bs : Array Value) (h : Gt G base P n v xs w) (hn : n ≤ 1048576) : Calls Try.prog 40 #[.pointer (some ⟨G, 0, none⟩), .string lab, .func fn fs bs] w fun e w' => e = .returned (.tuple #[]) ∧ (∃ v', Gt G base P (n + 1) v' (xs ++ [.string lab, .func fn fs bs]) w') ∧ Ad G w w' := by
  obtain ⟨p, c, rfl⟩ := own_form h.own
  have g0 := h.g.cell
  have g1 : ∀ o, (w.alloc o).cell? ⟨G, 1, none⟩ = some (.slice p n c) := fun o => (h.g.stays (bl_alloc (Below.refl _ _) o)).cell 1
  obtain ⟨i0, hi0, hz0, hz1, hz2⟩ := info_parts0 info_field
  have HG := hid h
  clear h
  go_enter Try.func40, Try.ntmps40
  go_wp2_with (at_builtin; refine wpList_append_own _ rfl _ _ 51 rfl base 57 i0 (.agg #[.string ByteArray.empty, .nilFunc]) 2 24 Try.underlying51 hi0 hz0 hz1 hz2 rfl (by decide) _ n xs rfl (HG.out.own.alloc _) ⟨w.heap.size, 0, none⟩ 1 1 [.string lab, .func fn fs bs] rfl rfl ?c1 ?c2 ?c3 ?c4 ?c5 ?_)
  case c1 =>
    intro j u hj
    match j, hj with
    | 0, hj => simp at hj; subst hj; simp [Addr.add]
    | 1, hj => simp at hj; subst hj; simp [Addr.add]
    | j + 2, hj => simp at hj
  case c2 => intro u hu; simp at hu; rcases hu with rfl | rfl <;> rfl
  case c3 => unfold maxLen; omega
  case c4 => omega
  case c5 => have := HG.out.le; simp; omega
  intro v' w2 hown hgrow _
  have HA : Hid (Gt G base P n (.slice p n c) xs (w.alloc (.cells #[.string lab, .func fn fs bs] 57))) := HG.out.stays (bl_alloc (Below.refl _ _) _)
  have hne : some G ≠ (Value.slice p n c).ownBlock := fun e => by have := (HG.out.own.lt G e.symm).1; have := HG.out.lo; omega
  have HG2 : Hid (Arr w2 G 69 [.pointer (some ⟨P, 0, none⟩), .slice p n c]) := HA.out.g.grown hgrow hne
  have x2 := HG2.out.cell
  have z2 := HG2.out.frozen
  obtain ⟨va, vc, rfl⟩ := own_form hown
  have HO := hid hown
  have HGR := hid hgrow
  clear hown hgrow g0 g1
  go_wp2
  first | refine bodyPost_end (results_none rfl _ _ _) rfl ?_ | refine bodyPost_ret (results_none rfl _ _ _) rfl ?_
  have hlo := HG.out.lo
  have hle := HG.out.le
  have hrow' : ∀ b, (Value.slice va (n + 1) vc).ownBlock = some b → base ≤ b := fun b hb => (HO.out.lt b hb).1
  refine ⟨rfl, ⟨_, ⟨hlo, ?_, HG2.out.set 1 _, ?_⟩⟩, ⟨?_, ?_, ?_⟩⟩
  · have := HGR.out.size; simp [World.setCell] at *; omega
  · exact HO.out.kept (row := some G) ⟨rfl, rfl, rfl, by simp [World.setCell], fun b _ hb => Below.heap_setCell _ _ _ _ (fun e => hb (by simp [e]))⟩ (Or.inr (fun e => by have := hrow' _ e; omega))
  · have := HGR.out.size; simp [World.setCell] at *; omega
  · have hB1 : Below G w (w.alloc (.cells #[.string lab, .func fn fs bs] 57)) := (bl_alloc (Below.refl w.heap.size w) _).mono (by omega)
    have hB2 : Below G w w2 := hB1.grown HGR.out (by simp; omega) (fun b e => by have := (HG.out.own.lt b e).1; omega)
    exact hB2.setCell (p := ⟨G, 1, none⟩) (Nat.le_refl _) _
  · intro b T cur hb hT hA
    exact ((hA.stays (bl_alloc (Below.refl _ _) _)).grown HGR.out (own_typed HA.out.own (hA.stays (bl_alloc (Below.refl _ _) _)) hT)).other (p := ⟨G, 1, none⟩) hb _
end Go.Proofs.Ytigliglmejkakab

namespace Go.Proofs.Ytigliglmejkakab.Tgt
open Go.RowKit
set_option linter.unusedVariables false
set_option linter.unusedSimpArgs false

def Enters (f : FuncId) : Prop := ∀ (args : Array Value) (w : World), (callFunc f args).run Try.prog w = .ok (.enter f args) w
theorem enters_of {f : FuncId} {fn : Func} {c : Code} (hf : Try.prog.funcs[f]? = some fn) (hname : (fn.name == "runtime.NumGoroutine") = false) (hb : fn.body = some c) : Enters f := by
  intro args w
  have h1 : ¬ fn.name = "runtime.NumGoroutine" := fun e => by rw [e] at hname; simp at hname
  simp [callFunc, hf, h1, hb]
theorem ret_bool {a b : Bool} (h : a = b) : Ending.returned (.bool a) = .returned (.bool b) := by rw [h]
theorem ret_int {a b : Int} (h : a = b) : Ending.returned (.int .i64 a) = .returned (.int .i64 b) := by rw [h]
theorem info_parts0 {P : Program} {t : TypeId} {z : Value} {s b : Nat} (h : (P.info? t).map (fun i => (i.zero, i.size, i.bytes)) = some (some z, s, b)) : ∃ i, P.info? t = some i ∧ i.zero = some z ∧ i.size = s ∧ i.bytes = b := by
  cases hi : P.info? t with
  | none => rw [hi] at h; cases h
  | some i =>
    rw [hi] at h
    simp only [Option.map_some, Option.some.injEq, Prod.mk.injEq] at h
    exact ⟨i, rfl, h.1, h.2.1, h.2.2⟩
theorem row_new (w : World) (t : TypeId) (k : Nat) : (w.alloc (.cells #[] t)).ownsRow w.heap.size t k (.slice (some ⟨w.heap.size, 0, none⟩) 0 0) 0 [] := by
  refine ⟨(Nat.zero_mul k).symm, .inr ⟨w.heap.size, 0, #[], rfl, Nat.le_refl _, ?_, Nat.le_refl _, Nat.zero_le _, (Nat.zero_mul k).symm, by simp⟩⟩
  show (w.heap.push _)[w.heap.size]? = _
  simp
theorem bl_dN {w w1 : World} (h : Below w.heap.size w w1) (n : Nat) : Below w.heap.size w (w1.drewN n) := bl_tr h (bl_drewN _ _)
theorem bl_dr {w w1 : World} (h : Below w.heap.size w w1) : Below w.heap.size w w1.drew := h.drew
theorem bl_set {w w1 : World} (p : Addr) (u : Value) (h : Below w.heap.size w w1) (hp : w.heap.size ≤ p.block) : Below w.heap.size w (w1.setCell p u) := h.setCell hp u

/-- A block that holds these values, and may be written. -/
structure Arr (w : World) (g : Nat) (T : TypeId) (cur : List Value) : Prop where
  b : w.heap[g]? = some (.cells cur.toArray T (0, 0))
theorem Arr.lt {w : World} {g : Nat} {T : TypeId} {cur : List Value} (h : Arr w g T cur) : g < w.heap.size := by
  rcases Nat.lt_or_ge g w.heap.size with h' | h'
  · exact h'
  · have := h.b; simp [Array.getElem?_eq_none h'] at this
theorem Arr.cell {w : World} {g : Nat} {T : TypeId} {cur : List Value} (h : Arr w g T cur) (j : Nat) : w.cell? ⟨g, j, none⟩ = cur[j]? := by rw [cell_at h.b]; simp
theorem Arr.frozen {w : World} {g : Nat} {T : TypeId} {cur : List Value} (h : Arr w g T cur) (j : Nat) : w.frozen? ⟨g, j, none⟩ = false := by simp [World.frozen?, h.b]
theorem Arr.set {w : World} {g : Nat} {T : TypeId} {cur : List Value} (h : Arr w g T cur) (j : Nat) (u : Value) : Arr (w.setCell ⟨g, j, none⟩ u) g T (cur.set j u) := by
  constructor
  simp [World.setCell, Array.getElem?_modify, h.b]
theorem Arr.stays {w w' : World} {g : Nat} {T : TypeId} {cur : List Value} (h : Arr w g T cur) (hb : Below w.heap.size w w') : Arr w' g T cur := ⟨by rw [hb.block g h.lt]; exact h.b⟩
theorem Arr.other {w : World} {g : Nat} {T : TypeId} {cur : List Value} (h : Arr w g T cur) {p : Addr} (hp : g ≠ p.block) (u : Value) : Arr (w.setCell p u) g T cur := ⟨by rw [Below.heap_setCell _ _ _ _ hp]; exact h.b⟩
/-- vs stands in cur from o on. -/
def Seg (cur : List Value) (o : Nat) (vs : List Value) : Prop := ∀ (j : Nat) v, vs[j]? = some v → cur[o + j]? = some v
theorem Seg.cells {w : World} {g : Nat} {T : TypeId} {cur : List Value} (h : Arr w g T cur) {o : Nat} {vs : List Value} (hs : Seg cur o vs) : Cells w g o vs := fun j v hv => (h.cell _).trans (hs j v hv)
theorem Keeps.set {K : Nat → Prop} {w : World} {p : Addr} (hp : ¬ K p.block) (u : Value) : Keeps K w (w.setCell p u) := fun b o v hb hv => by
  rw [World.cell?_of_block (w := w) (Below.heap_setCell _ _ _ _ (fun e => hp (show K p.block from e ▸ hb)))]
  exact hv
theorem Ev.set {own o1 : Nat → Prop} {w w1 : World} (h : Ev own w o1 w1) {p : Addr} (hp : o1 p.block) (u : Value) : Ev own w o1 (w1.setCell p u) :=
  h.trans ⟨rfl, rfl, rfl, by simp [World.setCell], fun _ h => .inl h, fun b hb hn => Below.heap_setCell _ _ _ _ (fun e => hn (e ▸ hp))⟩
/-- The row of an append is the old one, or a new one. -/
def Fresh (w : World) (v v' : Value) : Prop := v'.ownBlock = v.ownBlock ∨ ∀ k, v'.ownBlock = some k → w.heap.size ≤ k
theorem append_own2 {P : Program} (w : World) (base : Nat) (t ty e : TypeId) (i : TypeInfo) (z : Value) (size bytes : Nat) (ht : P.underlying t = some (.slice e)) (hi : P.info? e = some i) (hz : i.zero = some z)
    (hsize : i.size = size) (hby : i.bytes = bytes) (hzs : z.cells.size = size) (hsz : 0 < size) (v : Value) (n : Nat) (xs : List Value) (hown : w.ownsRow base e size v n xs)
    (a : Addr) (m c : Nat) (news : List Value) (hl : news.length = m * size) (hnews : ∀ j u, news[j]? = some u → w.cell? (a.add j) = some u) (h1 : ∀ u ∈ news, u.oneCell' = true)
    (h63 : n + m ≤ maxLen) (hbytes : (n + m) * bytes ≤ 140737488355328) (hbase : base ≤ w.heap.size) :
    ∃ v' w', (Builtin.append_ #[t, t] ty #[v, .slice (some a) m c]).run P w = .ok v' w' ∧ w'.ownsRow base e size v' (n + m) (xs ++ news) ∧ w.grownBy w' v.ownBlock ∧ Fresh w v v' := by
  obtain ⟨v', w', hr, h2, h3, -⟩ := run_append_own (P := P) w base t ty e i z size bytes ht hi hz hsize hby hzs hsz v n xs hown a m c news hl hnews h1 h63 hbytes hbase
  refine ⟨v', w', hr, h2, h3, ?_⟩
  rcases hown.2 with ⟨hv, hn⟩ | ⟨g, cap, cur, hv, hbg, hg, hnc, hcm, hcs, htake⟩
  · have ho : w.ownsRow w.heap.size e size v n xs := ⟨hown.1, .inl ⟨hv, hn⟩⟩
    obtain ⟨v2, w2, hr2, h22, -, -⟩ := run_append_own (P := P) w w.heap.size t ty e i z size bytes ht hi hz hsize hby hzs hsz v n xs ho a m c news hl hnews h1 h63 hbytes (Nat.le_refl _)
    rw [hr] at hr2
    injection hr2 with e1 e2
    subst e1
    exact .inr fun k hk => (h22.lt k hk).1
  · subst hsize
    subst hby
    subst hv
    by_cases hroom : n + m ≤ cap
    · have hfit : n * i.size + news.length ≤ cur.size := by rw [hl, hcs, ← Nat.add_mul]; exact Nat.mul_le_mul_right _ hroom
      rw [run_append_room (P := P) w t ty e i ht hi g n cap cur hg a m c news hl hnews h1 hroom hfit] at hr
      injection hr with e1 e2
      subst e1
      exact .inl rfl
    · have h63' : ((n + m : Nat) : Int) ≤ 9223372036854775807 := by simp only [maxLen] at h63; omega
      rw [run_append_grow (P := P) w t ty e i z ht hi hz ⟨g, 0, none⟩ n cap xs hown.1 (hown.cells (g := g) rfl) a m c news hl hnews (by omega) h63' (growslice_fits (by omega) hbytes)] at hr
      injection hr with e1 e2
      subst e1
      refine .inr fun k hk => ?_
      simp [Value.ownBlock] at hk
      omega
/-- Such an append, as one operation of a region that draws its order. -/
theorem step_append2 {P : Program} {ops : Array Oper} {o : Oper} {a : Act} {w : World} {K : Act → World → Prop} {Q : Exit → Act → World → Prop} {E : Prop}
    (hgd : o.guard = none) (s x : Operand) (t : TypeId) (hop : o.op = .call { callee := .builtin .append, args := #[s, x], argTypes := #[t, t] })
    (base : Nat) (e : TypeId) (i : TypeInfo) (z : Value) (size bytes : Nat) (ht : P.underlying t = some (.slice e)) (hi : P.info? e = some i) (hz : i.zero = some z)
    (hsize : i.size = size) (hby : i.bytes = bytes) (hzs : z.cells.size = size) (hsz : 0 < size) (v : Value) (n : Nat) (xs : List Value) (hs : a.eval s = v) (hown : w.ownsRow base e size v n xs)
    (ad : Addr) (m c : Nat) (news : List Value) (hx : a.eval x = .slice (some ad) m c) (hl : news.length = m * size) (hnews : ∀ j u, news[j]? = some u → w.cell? (ad.add j) = some u) (h1 : ∀ u ∈ news, u.oneCell' = true)
    (h63 : n + m ≤ maxLen) (hbytes : (n + m) * bytes ≤ 140737488355328) (hbase : base ≤ w.heap.size)
    (hK : ∀ v' w', w'.ownsRow base e size v' (n + m) (xs ++ news) → w.grownBy w' v.ownBlock → Fresh w v v' → K (a.put o.dst v') w') :
    if Region.wanted o (yielded ops a.tmps) = true then Oper.wp P o a w K Q else E := by
  have hw : Region.wanted o (yielded ops a.tmps) = true := by simp [Region.wanted, hgd]
  rw [if_pos hw]
  obtain ⟨v', w', hr, h2, h3, h4⟩ := append_own2 (P := P) w base t o.type e i z size bytes ht hi hz hsize hby hzs hsz v n xs hown ad m c news hl hnews h1 h63 hbytes hbase
  unfold Oper.wp execOp
  simp only [hop, resolve, invoke, builtin, Sem.run_bind, Sem.run_pure, Result.andThen_ok, List.map_toArray, List.map_cons, List.map_nil, hs, hx, hr]
  exact hK v' w' h2 h3 h4
theorem Ev.grown {own : Nat → Prop} {w w' : World} {row : Option Nat} (hg : w.grownBy w' row) (ho : ∀ b, row = some b → own b) : Ev own w own w' := by
  obtain ⟨h1, h2, h3, h4, h5⟩ := hg
  exact ⟨h1, h2, h3, h4, fun _ h => .inl h, fun b hb hn => h5 b hb (fun e => hn (ho b e.symm))⟩
theorem step_mapUpdate {P : Program} {ops : Array Oper} {o : Oper} {a : Act} {w w' : World} {K : Act → World → Prop} {Q : Exit → Act → World → Prop} {E : Prop} (hgd : o.guard = none) (m x v : Operand) (t : TypeId) (hop : o.op = .mapUpdate t m x v) (vm vx vv : Value) (hm : a.eval m = vm) (hx : a.eval x = vx) (hv : a.eval v = vv)
    (hr : (Instr.mapUpdate t vm vx vv).run P w = .ok () w') (hK : K (a.put o.dst undef) w') : if Region.wanted o (yielded ops a.tmps) = true then Oper.wp P o a w K Q else E := by
  have hw : Region.wanted o (yielded ops a.tmps) = true := by simp [Region.wanted, hgd]
  rw [if_pos hw]
  unfold Oper.wp
  simp [execOp, hop, hm, hx, hv, hr, Result.andThen]
  exact hK
theorem addr_add' (b o k : Nat) : (⟨b, o, none⟩ : Addr).add k = ⟨b, o + k, none⟩ := by
  cases k <;> rfl
/-- An append whose run is known. -/
theorem wpList_app {P : Program} {ops : Array Oper} {rest : List Oper} {o : Oper} {a : Act} {w : World} {Q : Exit → Act → World → Prop} (hgd : o.guard = none) (s x : Operand) (t : TypeId)
    (ho : o.op = .call { callee := .builtin .append, args := #[s, x], argTypes := #[t, t] }) (v vx : Value) (hs : a.eval s = v) (hx : a.eval x = vx) (v' : Value) (w' : World)
    (hr : (Builtin.append_ #[t, t] o.type #[v, vx]).run P w = .ok v' w') (h : wpList P ops Q rest (a.put o.dst v') w') : wpList P ops Q (o :: rest) a w := by
  refine wpList_plain hgd fun _ hK => ?_
  unfold Oper.wp execOp
  simp only [ho, resolve, invoke, builtin, Sem.run_bind, Sem.run_pure, Result.andThen_ok, List.map_toArray, List.map_cons, List.map_nil, hs, hx, hr]
  exact hK _ _ h
theorem results_cell1 {fn : Func} {p : Tmp} {ty : TypeId} (h : fn.results = #[.cell p ty]) (tmps : Array Value) (P : Program) (w : World) :
    (results fn tmps).run P w = ((asAddr (tmps.getD p undef)).run P w).andThen fun a w₁ => ((loadVar ty a).run P w₁) := by
  simp only [results, h]
  simp [Sem.run_bind, Result.andThen]
theorem set_same {vs : List Value} {j : Nat} {v : Value} (h : vs[j]? = some v) : vs.set j v = vs := by
  apply List.ext_getElem?
  intro i
  rw [List.getElem?_set]
  have h1 := (List.getElem?_eq_some_iff.1 h).1
  split
  · rename_i h2; subst h2; rw [h]
  · rfl
theorem hid {p : Prop} (h : p) : Hid p := h
theorem bl_on {B : Nat} {W w w' : World} (h : Below B W w) (hb : Below w.heap.size w w') (hB : B ≤ w.heap.size := by first | exact Nat.le_trans (by assumption) (Below.size (by assumption)) | exact Below.size (by assumption)) : Below B W w' := h.trans (hb.mono hB)
theorem bl_put {B : Nat} {W w : World} (h : Below B W w) {p : Addr} (v : Value) (hp : B ≤ p.block) : Below B W (w.setCell p v) := h.setCell hp v
end Go.Proofs.Ytigliglmejkakab.Tgt

namespace Go.Proofs.Ytigliglmejkakab.Tgt
open Go.RowKit
set_option linter.unusedVariables false
set_option linter.unusedSimpArgs false

end Go.Proofs.Ytigliglmejkakab.Tgt

namespace Go.Proofs.Ytigliglmejkakab.Tgt
open Go.RowKit
set_option linter.unusedVariables false
set_option linter.unusedSimpArgs false

/-- The nearest shape: number, labels, parts; is there such a kind? -/
def Tt.near (k n c : Int) : (Int × Int × Int) × Bool :=
  if k = 1 ∨ k = 2 ∨ k = 3 then ((0, 0, 0), true)
  else if k = 4 ∨ k = 5 then ((0, 0, 2), true)
  else if k = 6 then ((n, 0, 0), true)
  else if k = 7 then ((0, c, c), true)
  else if k = 8 then ((0, 0, c), true)
  else if k = 9 ∨ k = 10 ∨ k = 11 then ((n, 0, 1), true)
  else ((0, 0, 0), false)
def shp (p : Int × Int × Int) : Value := .agg #[.int .i64 p.1, .int .i64 p.2.1, .int .i64 p.2.2]

def Tt.less (a b : ByteArray) : Bool := Op.bytesLess a.toList b.toList
/-- Are the texts in order, each once? -/
def Tt.rise : List ByteArray → Bool
  | [] => true
  | [_] => true
  | a :: b :: r => Tt.less a b && Tt.rise (b :: r)
theorem Tt.rise_at {l : List ByteArray} {j : Nat} {a b : ByteArray} (ha : l[j]? = some a) (hb : l[j + 1]? = some b) : Tt.rise (l.drop j) = (Tt.less a b && Tt.rise (l.drop (j + 1))) := by
  obtain ⟨h1, rfl⟩ := List.getElem?_eq_some_iff.1 ha
  obtain ⟨h2, rfl⟩ := List.getElem?_eq_some_iff.1 hb
  rw [List.drop_eq_getElem_cons h1, List.drop_eq_getElem_cons h2, Tt.rise]
theorem Tt.rise_short {l : List ByteArray} (h : l.length ≤ 1) : Tt.rise l = true := by
  match l, h with
  | [], _ => rfl
  | [_], _ => rfl
theorem geq_str (a b : ByteArray) : binOp .geq 9 (.string a) (.string b) = pure (.bool !(Tt.less a b)) := by simp [binOp, Op.stringOp, Tt.less]

end Go.Proofs.Ytigliglmejkakab.Tgt

namespace Go.Proofs.Ytigliglmejkakab.Tgt
open Go.RowKit
set_option linter.unusedVariables false
set_option linter.unusedSimpArgs false

/-- Has the node what its kind names? -/
def Tt.own (k n : Int) (l c : Nat) : Bool := (Tt.near k n c).2 && (n == (Tt.near k n c).1.1 && ((l : Int) == (Tt.near k n c).1.2.1 && (c : Int) == (Tt.near k n c).1.2.2))
mutual
def Tt.right : Tt → Bool
  | .mk k n ls ks => Tt.own k n ls.length ks.length && (Tt.rise ls && Tt.rightL ks)
def Tt.rightL : List Tt → Bool
  | [] => true
  | x :: r => Tt.right x && Tt.rightL r
end
theorem Tt.right_mk (t : Tt) : t.right = (Tt.own t.k t.n t.ls.length t.ks.length && (Tt.rise t.ls && Tt.rightL t.ks)) := by cases t; rw [Tt.right]; rfl
theorem Tt.rightL_drop {l : List Tt} {k : Nat} {x : Tt} (hx : l[k]? = some x) : Tt.rightL (l.drop k) = (x.right && Tt.rightL (l.drop (k + 1))) := by
  rw [Tt.drop_at hx, Tt.rightL]
/-- 0: right; 4: too deep; 1: not right. -/
def Tt.errno (t : Tt) : Int := if 100000 < t.deepest then 4 else if t.right then 0 else 1

end Go.Proofs.Ytigliglmejkakab.Tgt

namespace Go.Proofs.Ytigliglmejkakab.Tgt
open Go.RowKit
set_option linter.unusedVariables false
set_option linter.unusedSimpArgs false

theorem int_key : Maps.Keyed Try.prog 3 := Maps.int_keyed Try.underlying3
theorem zero_int (w : World) : (zeroValue 3).run Try.prog w = .ok (.int .i64 0) w := by kernel_rfl
theorem keylit (x : Int) : WideAt.IsKeyLit (.int .i64 x) := by simp [WideAt.IsKeyLit]
theorem wf_of {x : Int} (hx : R64 x) : (Lit.int .i64 x).wf = true := by obtain ⟨a, b⟩ := hx; simp [Lit.wf, IntKind.min, IntKind.max, IntKind.signed, IntKind.bits]; omega
theorem r64_zero : R64 0 := ⟨by decide, by decide⟩
/-- Block C is a map that tells what lk tells. -/
def MapIs (w : World) (C n : Nat) (e : List (Int × Int)) : Prop := ∃ D : DataW Unit, w.ownsMap Try.prog 3 (plainElem Try.prog 3) C n D ∧ Maps.IsMap D ∧ ∀ x : Int, (lk e x = none → Maps.has D (.int .i64 x) = false) ∧ ∀ a, lk e x = some a → Maps.has D (.int .i64 x) = true ∧ ∀ z, D.atKey (.int .i64 x) z = .lit (.int .i64 a)
theorem MapIs.lt {w : World} {C n : Nat} {e : List (Int × Int)} (h : MapIs w C n e) : C < w.heap.size := by obtain ⟨D, h1, -⟩ := h; exact h1.lt
theorem MapIs.le {w : World} {C n m : Nat} {e : List (Int × Int)} (h : MapIs w C n e) (hn : n ≤ m) : MapIs w C m e := by obtain ⟨D, h1, h2⟩ := h; exact ⟨D, h1.mono hn, h2⟩
theorem MapIs.kept {w w' : World} {C n : Nat} {e : List (Int × Int)} {row : Option Nat} (h : MapIs w C n e) (hg : w.grownBy w' row) (hne : some C ≠ row) : MapIs w' C n e := by
  obtain ⟨D, h1, h2⟩ := h
  exact ⟨D, h1.kept hg hne, h2⟩
theorem MapIs.block {w w' : World} {C n : Nat} {e : List (Int × Int)} (h : MapIs w C n e) (hb : w'.heap[C]? = w.heap[C]?) : MapIs w' C n e := by
  obtain ⟨D, ⟨es, cl, h1, h3⟩, h2⟩ := h
  exact ⟨D, ⟨es, cl, hb.trans h1, h3⟩, h2⟩
theorem MapIs.stays {w w' : World} {C n : Nat} {e : List (Int × Int)} (h : MapIs w C n e) (hb : Below w.heap.size w w') : MapIs w' C n e := h.block (hb.block C h.lt)
theorem map_new (w : World) : MapIs (w.alloc (.map #[] 0)) w.heap.size 0 [] := ⟨_, World.ownsMap_made w _ _ _, ⟨_, rfl⟩, fun x => ⟨fun _ => by simp [Maps.has], fun a h => (by cases h)⟩⟩
/-- What was hidden. -/
def hidc : List (Int × Int) → List Value
  | [] => []
  | p :: r => hidc r ++ [.int .i64 p.1, .int .i64 ((lk r p.1).getD 0), .bool (lk r p.1).isSome]
theorem hidc_len (e : List (Int × Int)) : (hidc e).length = e.length * 3 := by
  induction e with
  | nil => rfl
  | cons p r ih => rw [hidc, List.length_append, ih]; simp; omega
/-- The map's block. -/
def mapBlk : Value → Option Nat
  | .map b => b
  | _ => none
/-- What a scope owns. -/
def Os (mv lv : Value) : Nat → Prop := fun b => mapBlk mv = some b ∨ lv.ownBlock = some b
theorem own_block {w w' : World} {base : Nat} {e : TypeId} {size : Nat} {v : Value} {n : Nat} {xs : List Value} (h : w.ownsRow base e size v n xs) (hb : ∀ b, v.ownBlock = some b → w'.heap[b]? = w.heap[b]?) : w'.ownsRow base e size v n xs := by
  refine ⟨h.1, ?_⟩
  rcases h.2 with h1 | ⟨g, cap, cur, rfl, h2, h3, h4⟩
  · exact .inl h1
  · exact .inr ⟨g, cap, cur, rfl, h2, (hb g rfl).trans h3, h4⟩
end Go.Proofs.Ytigliglmejkakab.Tgt

namespace Go.Proofs.Ytigliglmejkakab.Tgt
open Go.RowKit
set_option linter.unusedVariables false
set_option linter.unusedSimpArgs false

/-- What a scope in block M may write. -/
def Om (M : Nat) (mv lv : Value) : Nat → Prop := fun b => b = M ∨ Os mv lv b
theorem cells3 (w : World) (x y z : Value) (T : TypeId) : ∀ (j : Nat) u, [x, y, z][j]? = some u → (w.alloc (.cells #[x, y, z] T)).cell? ((⟨w.heap.size, 0, none⟩ : Addr).add j) = some u := by
  intro j u hu
  rw [addr_add', cell_at (heap_alloc_at _ _), Nat.zero_add]
  simpa using hu
end Go.Proofs.Ytigliglmejkakab.Tgt

namespace Go.Proofs.Ytigliglmejkakab.Tgt
open Go.RowKit
set_option linter.unusedVariables false
set_option linter.unusedSimpArgs false

theorem step_delete {P : Program} {ops : Array Oper} {o : Oper} {a : Act} {w w' : World} {K : Act → World → Prop} {Q : Exit → Act → World → Prop} {E : Prop} (hgd : o.guard = none) (m x : Operand) (t k : TypeId) (hop : o.op = Op.call { callee := Callee.builtin Builtin.delete, args := #[m, x], argTypes := #[t, k] }) (vm vx : Value) (hm : a.eval m = vm) (hx : a.eval x = vx)
    (hr : (Builtin.delete_ #[t, k] o.type #[vm, vx]).run P w = .ok (.tuple #[]) w') (hK : K (a.put o.dst (.tuple #[])) w') : if Region.wanted o (yielded ops a.tmps) = true then Oper.wp P o a w K Q else E := by
  have hw : Region.wanted o (yielded ops a.tmps) = true := by simp [Region.wanted, hgd]
  rw [if_pos hw]
  unfold Oper.wp
  simp [execOp, hop, resolve, invoke, builtin, hm, hx, hr, Result.andThen]
  exact hK
theorem grown_ne {w w' : World} {C b : Nat} (h : w.grownBy w' (some C)) (hb : b < w.heap.size) (hne : b ≠ C) : w'.heap[b]? = w.heap[b]? := h.block b hb (fun e => hne (Option.some.inj e))
/-- How long the list of what was hidden is. -/
def lenAt (M o : Nat) (w : World) : Nat := match w.cell? ⟨M, o, none⟩ with
  | some (.slice _ k _) => k
  | _ => 0

end Go.Proofs.Ytigliglmejkakab.Tgt

namespace Go.Proofs.Ytigliglmejkakab.Tgt
open Go.RowKit
set_option linter.unusedVariables false
set_option linter.unusedSimpArgs false

theorem Ev.new {own o1 : Nat → Prop} {w w1 : World} (h : Ev own w o1 w1) {p : Addr} (hp : w.heap.size ≤ p.block) (v : Value) : Ev own w o1 (w1.setCell p v) :=
  ⟨h.os, h.tape, h.output, by simp only [World.setCell, Array.size_modify]; exact h.size, h.mine, fun b hb hn => (Below.heap_setCell _ _ _ _ (fun e => by rw [e] at hb; omega)).trans (h.block b hb hn)⟩
theorem set_two {vs : List Value} {q : Nat} {mv lv mv' lv' : Value} (hm : vs[q + 2]? = some mv) (hl : vs[q + 2 + 1]? = some lv) : ((vs.set (q + 2) mv').set (q + 2 + 1) lv')[q + 2]? = some mv' ∧ ((vs.set (q + 2) mv').set (q + 2 + 1) lv')[q + 2 + 1]? = some lv' ∧ ∀ j, j ≠ q + 2 → j ≠ q + 2 + 1 → ((vs.set (q + 2) mv').set (q + 2 + 1) lv')[j]? = vs[j]? := by
  have h1 := (List.getElem?_eq_some_iff.1 hm).1
  have h2 := (List.getElem?_eq_some_iff.1 hl).1
  refine ⟨?_, ?_, fun j hj1 hj2 => ?_⟩
  · rw [List.getElem?_set_ne (by omega), List.getElem?_set_self h1]
  · rw [List.getElem?_set_self (by rw [List.length_set]; exact h2)]
  · rw [List.getElem?_set_ne (by omega), List.getElem?_set_ne (by omega)]
/-- What is bound within a type. -/
def Tt.env (t : Tt) (e : List (Int × Int)) : List (Int × Int) := if t.binds then (t.n, (e.length : Int)) :: e else e

end Go.Proofs.Ytigliglmejkakab.Tgt
