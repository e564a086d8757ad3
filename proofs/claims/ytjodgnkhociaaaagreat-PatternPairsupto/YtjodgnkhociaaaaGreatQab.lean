/- Lists of ints in memory; Index, Contains; which kinds stand in a type. New memory: Clone, renewed. An append: the row is the old one, or a new one. The meter; Size, Fits. by: what is put in for a node. The document's own: place, In, counted, Size, Fits, grown. renewed: a node with what is made of each of its parts, in new memory. -/
import Derived.BigQuiet
import Derived.Laws.AppendOwn
import Derived.Laws.AppendOwnNone
import Derived.Lib.SliceRun
import Derived.Deep.RegionHeld
import Derived.Laws.ResultCell
import Derived.Test.YtjodgnkhociaaaaGreatQaa
namespace Go.Proofs.YtjodgnkhociaaaaGreat
open Go.RowKit
set_option linter.unusedVariables false
set_option linter.unusedSimpArgs false

/-- A slice of ints, in a block of K. -/
def Ls (w : World) (K : Nat → Prop) (v : Value) (l : List Int) : Prop :=
  (∃ b o c, v = .slice (some ⟨b, o, none⟩) l.length c ∧ K b ∧ l.length ≤ c ∧ l.length ≤ maxLen ∧ ∀ (j : Nat) x, l[j]? = some x → w.cell? ⟨b, o + j, none⟩ = some (.int .i64 x)) ∨ (l = [] ∧ ∃ p c, v = .slice p 0 c)
theorem Ls.move {w w' : World} {K K' : Nat → Prop} {v : Value} {l : List Int} (h : Ls w K v l) (hk : Keeps K w w') (hK : ∀ b, K b → K' b) : Ls w' K' v l := by
  rcases h with ⟨b, o, c, hv, hb, hc, hm, hl⟩ | h
  · exact .inl ⟨b, o, c, hv, hK b hb, hc, hm, fun j x hx => hk _ _ _ hb (hl j x hx)⟩
  · exact .inr h
theorem Ls.below {w w' : World} {K : Nat → Prop} {v : Value} {l : List Int} (h : Ls w K v l) (hb : Below w.heap.size w w') : Ls w' K v l := h.move (Keeps.of_below hb) fun _ h => h
theorem Ls.any {w : World} {K : Nat → Prop} {v : Value} {l : List Int} (h : Ls w K v l) : Ls w Any v l := h.move (Keeps.refl _ _) fun _ _ => trivial
theorem Ls.form {w : World} {K : Nat → Prop} {v : Value} {l : List Int} (h : Ls w K v l) : ∃ a c, v = .slice a l.length c ∧ l.length ≤ maxLen := by
  rcases h with ⟨b, o, c, rfl, -, -, hm, -⟩ | ⟨rfl, p, c, rfl⟩
  · exact ⟨_, _, rfl, hm⟩
  · exact ⟨_, _, rfl, Nat.zero_le _⟩
theorem Ls.oldK {w : World} {own : Nat → Prop} {v : Value} {l : List Int} (h : Ls w (fun b => ¬ own b) v l) : Ls w (Free own w) v l := by
  rcases h with ⟨b, o, c, hv, hb, hc, hm, hl⟩ | h
  · cases l with
    | nil => exact .inr ⟨rfl, _, _, hv⟩
    | cons x r => exact .inl ⟨b, o, c, hv, ⟨World.block_lt_of_cell? w _ (hl 0 x rfl), hb⟩, hc, hm, hl⟩
  · exact .inr h
theorem Ls.old {w : World} {K : Nat → Prop} {v : Value} {l : List Int} (h : Ls w K v l) : Ls w (fun b => b < w.heap.size) v l := by
  rcases h with ⟨b, o, c, hv, hb, hc, hm, hl⟩ | h
  · cases l with
    | nil => exact .inr ⟨rfl, _, _, hv⟩
    | cons x r => exact .inl ⟨b, o, c, hv, World.block_lt_of_cell? w _ (hl 0 x rfl), hc, hm, hl⟩
  · exact .inr h
theorem Tp.idx_at {n : Int} {l : List Int} {k : Nat} {x : Int} (hx : l[k]? = some x) : Tp.idx n (l.drop k) k = if x = n then (k : Int) else Tp.idx n (l.drop (k + 1)) (k + 1) := by
  obtain ⟨h1, e1⟩ := List.getElem?_eq_some_iff.1 hx
  rw [List.drop_eq_getElem_cons h1, e1, Tp.idx]

theorem Tp.idx_neg (n : Int) : ∀ (l : List Int) (i : Nat), (0 ≤ Tp.idx n l i) ↔ n ∈ l
  | [], i => by simp [Tp.idx]
  | x :: r, i => by
    rw [Tp.idx]
    by_cases h : x = n
    · rw [if_pos h]; simp [h]
    · rw [if_neg h, Tp.idx_neg n r (i + 1), List.mem_cons]
      exact ⟨.inr, fun h2 => h2.elim (fun e => absurd e.symm h) id⟩
def ISpare (v : Value) (l : List Int) (W : World) (s : Unit) (own : Nat → Prop) (w : World) : Prop := (∀ b, ¬ own b) ∧ Below W.heap.size W w ∧ Ls w Any v l
theorem ISpare.steady (v : Value) (l : List Int) (W : World) : Steady (ISpare v l W) := ⟨fun s own w w' h hb => ⟨h.1, bl_tr h.2.1 hb, h.2.2.below hb⟩, fun s own w b h ho => absurd ho (h.1 b)⟩
end Go.Proofs.YtjodgnkhociaaaaGreat

namespace Go.Proofs.YtjodgnkhociaaaaGreat
open Go.RowKit
set_option linter.unusedVariables false
set_option linter.unusedSimpArgs false

theorem info_parts0 {P : Program} {t : TypeId} {z : Value} {s b : Nat} (h : (P.info? t).map (fun i => (i.zero, i.size, i.bytes)) = some (some z, s, b)) : ∃ i, P.info? t = some i ∧ i.zero = some z ∧ i.size = s ∧ i.bytes = b := by
  cases hi : P.info? t with
  | none => rw [hi] at h; cases h
  | some i =>
    rw [hi] at h
    simp only [Option.map_some, Option.some.injEq, Prod.mk.injEq] at h
    exact ⟨i, rfl, h.1, h.2.1, h.2.2⟩
theorem row_new (w : World) (t : TypeId) (k : Nat) : (w.alloc (.cells #[] t)).ownsRow w.heap.size t k (.slice (some ⟨w.heap.size, 0, none⟩) 0 0) 0 [] := by
  refine ⟨(Nat.zero_mul k).symm, .inr ⟨w.heap.size, 0, #[], rfl, Nat.le_refl _, ?_, Nat.le_refl _, Nat.zero_le _, (Nat.zero_mul k).symm, by simp⟩⟩
  show (w.heap.push _)[w.heap.size]? = _
  simp
/-- What Clone gives of n things of k cells each, whose cells hold these values. -/
def Cloned (w : World) (e : TypeId) (k n : Nat) (vals : List Value) (x : Ending) (w' : World) : Prop := ∃ v', x = .returned v' ∧ w'.ownsRow w.heap.size e k v' n vals ∧ Below w.heap.size w w'

theorem info_clT : (Tryz.prog.info? 47).map (fun i => (i.zero, i.size, i.bytes)) = some (some (.agg #[.int .i64 0, .int .i64 0, .slice none 0 0]), 3, 40) := by kernel_rfl
set_option maxHeartbeats 2000000 in
set_option maxRecDepth 100000 in
theorem clone_rawT (w : World) (a : Addr) (n c : Nat) (vals : List Value) (hl : vals.length = n * 3) (hc : ∀ (j : Nat) u, vals[j]? = some u → w.cell? (a.add j) = some u) (h1 : ∀ u ∈ vals, u.oneCell' = true) (hn : n ≤ 1048576) :
    Calls Tryz.prog 127 #[.slice (some a) n c] w (Cloned w 47 3 n vals) := by
  obtain ⟨i0, hi, hz0, hz1, hz2⟩ := info_parts0 info_clT
  have row0 := row_new w 47 3
  have q22 : ∀ (w : World) (a : Option Addr) (n c n' c' : Nat), (binOp .eql 45 (.slice a n c) (.slice none n' c')).run Tryz.prog w = .ok (.bool a.isNone) w := fun w a n c n' c' => Lib.run_eql_slice_nil w _ _ a n c n' c' Tryz.underlying45
  have A : Hid (∀ (j : Nat) u, vals[j]? = some u → w.cell? (a.add j) = some u) := hc
  clear hc
  go_enter Tryz.func127, Tryz.ntmps127
  go_wp2_with (at_builtin; refine wpList_append_own _ rfl _ _ 45 rfl w.heap.size 47 i0 (.agg #[.int .i64 0, .int .i64 0, .slice none 0 0]) 3 40 Tryz.underlying45 hi hz0 hz1 hz2 rfl (by decide) _ _ _ rfl row0 a n c vals rfl hl ?qc2 h1 ?qc4 ?qc5 ?qc6 ?_)
  case qc2 =>
    intro j u hj
    exact Lib.cell?_alloc_some _ (A.out j u hj)
  case qc4 => unfold maxLen; omega
  case qc5 => omega
  case qc6 => simp
  intro v' w1 hown hgrow hnil
  go_wp2
  go_ret
  exact ⟨v', rfl, by simpa using hown, ((Below.refl _ w).alloc (Nat.le_refl _) _).grown hgrow (by simp) (by intro k hk; simp [Value.ownBlock] at hk; omega)⟩
set_option maxHeartbeats 1000000 in
theorem clone_nilT (w : World) (n c : Nat) : Calls Tryz.prog 127 #[.slice none n c] w fun e w' => e = .returned (.slice none 0 0) ∧ w' = w := by
  have q22 : ∀ (w : World) (a : Option Addr) (n c n' c' : Nat), (binOp .eql 45 (.slice a n c) (.slice none n' c')).run Tryz.prog w = .ok (.bool a.isNone) w := fun w a n c n' c' => Lib.run_eql_slice_nil w _ _ a n c n' c' Tryz.underlying45
  go_enter Tryz.func127, Tryz.ntmps127
  go_wp2
  go_ret
  exact ⟨rfl, rfl⟩

theorem TAtL.old {w : World} {K : Nat → Prop} {n : Nat} {v : Value} {l : List Tp} (h : TAtL w K n v l) : TAtL w (fun b => b < w.heap.size) n v l := by
  rcases h with ⟨b, o, c, hv, hb, hl, hm, hc⟩ | h
  · cases l with
    | nil => exact .inr ⟨rfl, _, _, hv⟩
    | cons x r =>
      refine .inl ⟨b, o, c, hv, ?_, hl, hm, fun i y hy => ?_⟩
      · obtain ⟨vs', g1, g2⟩ := hc 0 x rfl
        obtain ⟨a, c2, rfl⟩ := g2.form
        exact World.block_lt_of_cell? w _ (g1 0 _ rfl)
      · obtain ⟨vs', g1, g2⟩ := hc i y hy
        exact ⟨vs', g1, TAt.old g2⟩
  · exact .inr h
theorem bl_dN {w w1 : World} (h : Below w.heap.size w w1) (n : Nat) : Below w.heap.size w (w1.drewN n) := bl_tr h (bl_drewN _ _)
theorem bl_dr {w w1 : World} (h : Below w.heap.size w w1) : Below w.heap.size w w1.drew := h.drew
theorem bl_set {w w1 : World} (p : Addr) (u : Value) (h : Below w.heap.size w w1) (hp : w.heap.size ≤ p.block) : Below w.heap.size w (w1.setCell p u) := h.setCell hp u

/-- A block that holds these values, and may be written. -/
structure Arr (w : World) (g : Nat) (T : TypeId) (cur : List Value) : Prop where
  b : w.heap[g]? = some (.cells cur.toArray T (0, 0))
theorem Arr.lt {w : World} {g : Nat} {T : TypeId} {cur : List Value} (h : Arr w g T cur) : g < w.heap.size := by
  rcases Nat.lt_or_ge g w.heap.size with h' | h'
  · exact h'
  · have := h.b; simp [Array.getElem?_eq_none h'] at this
theorem Arr.cell {w : World} {g : Nat} {T : TypeId} {cur : List Value} (h : Arr w g T cur) (j : Nat) : w.cell? ⟨g, j, none⟩ = cur[j]? := by rw [cell_at h.b]; simp
theorem Arr.frozen {w : World} {g : Nat} {T : TypeId} {cur : List Value} (h : Arr w g T cur) (j : Nat) : w.frozen? ⟨g, j, none⟩ = false := by simp [World.frozen?, h.b]
theorem Arr.set {w : World} {g : Nat} {T : TypeId} {cur : List Value} (h : Arr w g T cur) (j : Nat) (u : Value) : Arr (w.setCell ⟨g, j, none⟩ u) g T (cur.set j u) := by
  constructor
  simp [World.setCell, Array.getElem?_modify, h.b]
theorem Arr.stays {w w' : World} {g : Nat} {T : TypeId} {cur : List Value} (h : Arr w g T cur) (hb : Below w.heap.size w w') : Arr w' g T cur := ⟨by rw [hb.block g h.lt]; exact h.b⟩
theorem Arr.other {w : World} {g : Nat} {T : TypeId} {cur : List Value} (h : Arr w g T cur) {p : Addr} (hp : g ≠ p.block) (u : Value) : Arr (w.setCell p u) g T cur := ⟨by rw [Below.heap_setCell _ _ _ _ hp]; exact h.b⟩
/-- vs stands in cur from o on. -/
def Seg (cur : List Value) (o : Nat) (vs : List Value) : Prop := ∀ (j : Nat) v, vs[j]? = some v → cur[o + j]? = some v
theorem Seg.cells {w : World} {g : Nat} {T : TypeId} {cur : List Value} (h : Arr w g T cur) {o : Nat} {vs : List Value} (hs : Seg cur o vs) : Cells w g o vs := fun j v hv => (h.cell _).trans (hs j v hv)
theorem Keeps.set {K : Nat → Prop} {w : World} {p : Addr} (hp : ¬ K p.block) (u : Value) : Keeps K w (w.setCell p u) := fun b o v hb hv => by
  rw [World.cell?_of_block (w := w) (Below.heap_setCell _ _ _ _ (fun e => hp (show K p.block from e ▸ hb)))]
  exact hv
end Go.Proofs.YtjodgnkhociaaaaGreat

namespace Go.Proofs.YtjodgnkhociaaaaGreat
open Go.RowKit
set_option linter.unusedVariables false

/-- The row of an append is the old one, or a new one. -/
def Fresh (w : World) (v v' : Value) : Prop := v'.ownBlock = v.ownBlock ∨ ∀ k, v'.ownBlock = some k → w.heap.size ≤ k
theorem append_own2 {P : Program} (w : World) (base : Nat) (t ty e : TypeId) (i : TypeInfo) (z : Value) (size bytes : Nat) (ht : P.underlying t = some (.slice e)) (hi : P.info? e = some i) (hz : i.zero = some z)
    (hsize : i.size = size) (hby : i.bytes = bytes) (hzs : z.cells.size = size) (hsz : 0 < size) (v : Value) (n : Nat) (xs : List Value) (hown : w.ownsRow base e size v n xs)
    (a : Addr) (m c : Nat) (news : List Value) (hl : news.length = m * size) (hnews : ∀ j u, news[j]? = some u → w.cell? (a.add j) = some u) (h1 : ∀ u ∈ news, u.oneCell' = true)
    (h63 : n + m ≤ maxLen) (hbytes : (n + m) * bytes ≤ 140737488355328) (hbase : base ≤ w.heap.size) :
    ∃ v' w', (Builtin.append_ #[t, t] ty #[v, .slice (some a) m c]).run P w = .ok v' w' ∧ w'.ownsRow base e size v' (n + m) (xs ++ news) ∧ w.grownBy w' v.ownBlock ∧ Fresh w v v' := by
  obtain ⟨v', w', hr, h2, h3, -⟩ := run_append_own (P := P) w base t ty e i z size bytes ht hi hz hsize hby hzs hsz v n xs hown a m c news hl hnews h1 h63 hbytes hbase
  refine ⟨v', w', hr, h2, h3, ?_⟩
  rcases hown.2 with ⟨hv, hn⟩ | ⟨g, cap, cur, hv, hbg, hg, hnc, hcm, hcs, htake⟩
  · have ho : w.ownsRow w.heap.size e size v n xs := ⟨hown.1, .inl ⟨hv, hn⟩⟩
    obtain ⟨v2, w2, hr2, h22, -, -⟩ := run_append_own (P := P) w w.heap.size t ty e i z size bytes ht hi hz hsize hby hzs hsz v n xs ho a m c news hl hnews h1 h63 hbytes (Nat.le_refl _)
    rw [hr] at hr2
    injection hr2 with e1 e2
    subst e1
    exact .inr fun k hk => (h22.lt k hk).1
  · subst hsize
    subst hby
    subst hv
    by_cases hroom : n + m ≤ cap
    · have hfit : n * i.size + news.length ≤ cur.size := by rw [hl, hcs, ← Nat.add_mul]; exact Nat.mul_le_mul_right _ hroom
      rw [run_append_room (P := P) w t ty e i ht hi g n cap cur hg a m c news hl hnews h1 hroom hfit] at hr
      injection hr with e1 e2
      subst e1
      exact .inl rfl
    · have h63' : ((n + m : Nat) : Int) ≤ 9223372036854775807 := by simp only [maxLen] at h63; omega
      rw [run_append_grow (P := P) w t ty e i z ht hi hz ⟨g, 0, none⟩ n cap xs hown.1 (hown.cells (g := g) rfl) a m c news hl hnews (by omega) h63' (growslice_fits (by omega) hbytes)] at hr
      injection hr with e1 e2
      subst e1
      refine .inr fun k hk => ?_
      simp [Value.ownBlock] at hk
      omega
/-- Such an append, as one operation of a region that draws its order. -/
theorem step_append2 {P : Program} {ops : Array Oper} {o : Oper} {a : Act} {w : World} {K : Act → World → Prop} {Q : Exit → Act → World → Prop} {E : Prop}
    (hgd : o.guard = none) (s x : Operand) (t : TypeId) (hop : o.op = .call { callee := .builtin .append, args := #[s, x], argTypes := #[t, t] })
    (base : Nat) (e : TypeId) (i : TypeInfo) (z : Value) (size bytes : Nat) (ht : P.underlying t = some (.slice e)) (hi : P.info? e = some i) (hz : i.zero = some z)
    (hsize : i.size = size) (hby : i.bytes = bytes) (hzs : z.cells.size = size) (hsz : 0 < size) (v : Value) (n : Nat) (xs : List Value) (hs : a.eval s = v) (hown : w.ownsRow base e size v n xs)
    (ad : Addr) (m c : Nat) (news : List Value) (hx : a.eval x = .slice (some ad) m c) (hl : news.length = m * size) (hnews : ∀ j u, news[j]? = some u → w.cell? (ad.add j) = some u) (h1 : ∀ u ∈ news, u.oneCell' = true)
    (h63 : n + m ≤ maxLen) (hbytes : (n + m) * bytes ≤ 140737488355328) (hbase : base ≤ w.heap.size)
    (hK : ∀ v' w', w'.ownsRow base e size v' (n + m) (xs ++ news) → w.grownBy w' v.ownBlock → Fresh w v v' → K (a.put o.dst v') w') :
    if Region.wanted o (yielded ops a.tmps) = true then Oper.wp P o a w K Q else E := by
  have hw : Region.wanted o (yielded ops a.tmps) = true := by simp [Region.wanted, hgd]
  rw [if_pos hw]
  obtain ⟨v', w', hr, h2, h3, h4⟩ := append_own2 (P := P) w base t o.type e i z size bytes ht hi hz hsize hby hzs hsz v n xs hown ad m c news hl hnews h1 h63 hbytes hbase
  unfold Oper.wp execOp
  simp only [hop, resolve, invoke, builtin, Sem.run_bind, Sem.run_pure, Result.andThen_ok, List.map_toArray, List.map_cons, List.map_nil, hs, hx, hr]
  exact hK v' w' h2 h3 h4
end Go.Proofs.YtjodgnkhociaaaaGreat

namespace Go.Proofs.YtjodgnkhociaaaaGreat
open Go.RowKit
set_option linter.unusedVariables false

/-- A number in the first cell of a block that may be written; the rest of the block is cs. -/
structure Mtr (M : Nat) (cs : List Value) (T : TypeId) (s : Int) (w : World) : Prop where
  block : w.heap[M]? = some (.cells (.int .i64 s :: cs).toArray T (0, 0))
theorem Mtr.lt {M : Nat} {cs : List Value} {T : TypeId} {s : Int} {w : World} (h : Mtr M cs T s w) : M < w.heap.size := by
  rcases Nat.lt_or_ge M w.heap.size with h' | h'
  · exact h'
  · have := h.block; simp [Array.getElem?_eq_none h'] at this
theorem Mtr.cell {M : Nat} {cs : List Value} {T : TypeId} {s : Int} {w : World} (h : Mtr M cs T s w) : w.cell? ⟨M, 0, none⟩ = some (.int .i64 s) := by
  simp [World.cell?, h.block]
theorem Mtr.frozen {M : Nat} {cs : List Value} {T : TypeId} {s : Int} {w : World} (h : Mtr M cs T s w) : w.frozen? ⟨M, 0, none⟩ = false := by
  simp [World.frozen?, h.block]
theorem Mtr.rest {M : Nat} {cs : List Value} {T : TypeId} {s : Int} {w : World} (h : Mtr M cs T s w) (j : Nat) (v : Value) (hv : cs[j]? = some v) : w.cell? ⟨M, j + 1, none⟩ = some v := by
  simp [World.cell?, h.block, hv]
theorem Mtr.stays {M : Nat} {cs : List Value} {T : TypeId} {s : Int} {w w' : World} (h : Mtr M cs T s w) (hb : Below w.heap.size w w') : Mtr M cs T s w' := ⟨by rw [hb.block M h.lt]; exact h.block⟩
theorem Mtr.set {M : Nat} {cs : List Value} {T : TypeId} {s : Int} {w : World} (h : Mtr M cs T s w) (s' : Int) : Mtr M cs T s' (w.setCell ⟨M, 0, none⟩ (.int .i64 s')) := by
  constructor
  simp [World.setCell, Array.getElem?_modify, h.block]
theorem Ev.set {own o1 : Nat → Prop} {w w1 : World} (h : Ev own w o1 w1) {p : Addr} (hp : o1 p.block) (u : Value) : Ev own w o1 (w1.setCell p u) :=
  h.trans ⟨rfl, rfl, rfl, by simp [World.setCell], fun _ h => .inl h, fun b hb hn => Below.heap_setCell _ _ _ _ (fun e => hn (e ▸ hp))⟩
/-- The meter in block M, nothing else is written. -/
def ICount (M : Nat) (cs : List Value) (T : TypeId) (s : Int) (own : Nat → Prop) (w : World) : Prop := Mtr M cs T s w ∧ own = (fun b => b = M)
theorem ICount.steady (M : Nat) (cs : List Value) (T : TypeId) : Steady (ICount M cs T) := ⟨fun s own w w' h hb => ⟨h.1.stays hb, h.2⟩, fun s own w b h ho => by rw [h.2] at ho; rw [ho]; exact h.1.lt⟩

end Go.Proofs.YtjodgnkhociaaaaGreat

namespace Go.Proofs.YtjodgnkhociaaaaGreat
open Go.RowKit
set_option linter.unusedVariables false
set_option linter.unusedSimpArgs false

theorem Tp.idx_lt (n : Int) : ∀ (l : List Int) (i : Nat), Tp.idx n l i < (i : Int) + l.length ∨ Tp.idx n l i = -1
  | [], i => .inr rfl
  | x :: r, i => by
    rw [Tp.idx]
    by_cases h : x = n
    · rw [if_pos h]; left; simp; omega
    · rw [if_neg h]
      rcases Tp.idx_lt n r (i + 1) with h2 | h2
      · left; simp at h2 ⊢; omega
      · exact .inr h2
theorem Tp.idx_nonneg (n : Int) : ∀ (l : List Int) (i : Nat), 0 ≤ Tp.idx n l i ∨ Tp.idx n l i = -1
  | [], i => .inr rfl
  | x :: r, i => by
    rw [Tp.idx]
    by_cases h : x = n
    · rw [if_pos h]; left; omega
    · rw [if_neg h]; exact Tp.idx_nonneg n r (i + 1)
/-- by, where the node is of another kind, or its number is none of from. -/
theorem Tp.by_none {kind : Int} {fr : List Int} {to : List Tp} {k n : Int} (hlen : fr.length = to.length) (h : Tp.by kind fr to k n = none) : k ≠ kind ∨ (k = kind ∧ Tp.idx n fr 0 = -1) := by
  unfold Tp.by at h
  by_cases hk : k = kind
  · rw [if_pos hk] at h
    refine .inr ⟨hk, ?_⟩
    rcases Tp.idx_nonneg n fr 0 with h2 | h2
    · rw [if_pos h2] at h
      rcases Tp.idx_lt n fr 0 with h3 | h3
      · rw [List.getElem?_eq_none_iff] at h; omega
      · omega
    · exact h2
  · exact .inl hk
theorem Tp.by_some {kind : Int} {fr : List Int} {to : List Tp} {k n : Int} {u : Tp} (h : Tp.by kind fr to k n = some u) : k = kind ∧ ∃ i : Nat, Tp.idx n fr 0 = (i : Int) ∧ to[i]? = some u := by
  unfold Tp.by at h
  by_cases hk : k = kind
  · rw [if_pos hk] at h
    by_cases h2 : 0 ≤ Tp.idx n fr 0
    · rw [if_pos h2] at h
      exact ⟨hk, (Tp.idx n fr 0).toNat, by omega, h⟩
    · rw [if_neg h2] at h; cases h
  · rw [if_neg hk] at h; cases h

end Go.Proofs.YtjodgnkhociaaaaGreat

namespace Go.Proofs.YtjodgnkhociaaaaGreat
open Go.RowKit
set_option linter.unusedVariables false
set_option linter.unusedSimpArgs false

def Tp.has (n : Int) : List Int → Bool
  | [] => false
  | x :: r => if x = n then true else Tp.has n r
theorem Tp.has_at {n : Int} {l : List Int} {k : Nat} {x : Int} (hx : l[k]? = some x) : Tp.has n (l.drop k) = if x = n then true else Tp.has n (l.drop (k + 1)) := by
  obtain ⟨h1, e1⟩ := List.getElem?_eq_some_iff.1 hx
  rw [List.drop_eq_getElem_cons h1, e1, Tp.has]
theorem Tp.has_mem (n : Int) : ∀ l : List Int, Tp.has n l = decide (n ∈ l)
  | [] => by simp [Tp.has]
  | x :: r => by
    rw [Tp.has, Tp.has_mem n r]
    by_cases h : x = n
    · rw [if_pos h]; simp [h]
    · rw [if_neg h, decide_eq_decide, List.mem_cons]
      exact ⟨.inr, fun h2 => h2.elim (fun e => absurd e.symm h) id⟩

theorem Tp.cnt_ks' (t : Tp) : t.cnt = Tp.cntL t.ks + 1 := by cases t; rw [Tp.cnt]; rfl
def Tp.cap (n : Int) : Int := if 1000 < n then 1001 else n
theorem Tp.cap_small {n : Int} (h : n ≤ 1000) : Tp.cap n = n := by unfold Tp.cap; rw [if_neg (by omega)]
theorem Tp.cap_big {n : Int} (h : 1000 < n) : Tp.cap n = 1001 := by unfold Tp.cap; rw [if_pos h]
theorem Tp.upto_cap (n : Int) : (Tp.upto n).1 = Tp.cap n := by unfold Tp.upto Tp.cap; split <;> split <;> first | rfl | omega
theorem Tp.cntL_drop {l : List Tp} {k : Nat} {x : Tp} (hx : l[k]? = some x) : Tp.cntL (l.drop k) = x.cnt + Tp.cntL (l.drop (k + 1)) := by
  obtain ⟨h1, e1⟩ := List.getElem?_eq_some_iff.1 hx
  rw [List.drop_eq_getElem_cons h1, e1, Tp.cntL]
end Go.Proofs.YtjodgnkhociaaaaGreat

namespace Go.Proofs.YtjodgnkhociaaaaGreat
open Go.RowKit
set_option linter.unusedVariables false
set_option linter.unusedSimpArgs false

theorem results_cell1 {fn : Func} {p : Tmp} {ty : TypeId} (h : fn.results = #[.cell p ty]) (tmps : Array Value) (P : Program) (w : World) :
    (results fn tmps).run P w = ((asAddr (tmps.getD p undef)).run P w).andThen fun a w₁ => ((loadVar ty a).run P w₁) := by
  simp only [results, h]
  simp [Sem.run_bind, Result.andThen]
theorem addr_add (b o k : Nat) : (⟨b, o, none⟩ : Addr).add k = ⟨b, o + k, none⟩ := by
  unfold Addr.add
  by_cases h : k = 0
  · subst h; simp
  · simp [h]
/-- What Clone leaves: the same values, in a block of its own. -/
def CloneT (w : World) (K : Nat → Prop) (n : Nat) (l : List Tp) (e : Ending) (w' : World) : Prop := ∃ v', e = .returned v' ∧ Below w.heap.size w w' ∧ ((l = [] ∧ ∃ p c, v' = .slice p 0 c) ∨ ∃ g cap cur, v' = .slice (some ⟨g, 0, none⟩) l.length cap ∧ w.heap.size ≤ g ∧ l.length ≤ cap ∧ Arr w' g 47 cur ∧ ∀ (i : Nat) x, l[i]? = some x → ∃ a c, TAt w K n [.int .i64 x.k, .int .i64 x.n, .slice a x.ks.length c] x ∧ Seg cur (i * 3) [.int .i64 x.k, .int .i64 x.n, .slice a x.ks.length c])
theorem clone_T (w : World) (K : Nat → Prop) (n : Nat) (v : Value) (l : List Tp) (h : TAtL w K n v l) (hl : l.length ≤ 1048576) : Calls Tryz.prog 127 #[v] w (CloneT w K n l) := by
  by_cases h0 : l = []
  · subst h0
    obtain ⟨a, c, rfl, -⟩ := h.form
    cases a with
    | none => exact (clone_nilT w 0 c).mono fun e w' ⟨h1, h2⟩ => ⟨_, h1, by rw [h2]; exact Below.refl _ _, .inl ⟨rfl, _, _, rfl⟩⟩
    | some a =>
      refine (clone_rawT w a 0 c [] rfl (fun j u hj => by simp at hj) (fun u hu => by cases hu) (by omega)).mono ?_
      rintro e w' ⟨v', rfl, hown, hb⟩
      refine ⟨v', rfl, hb, .inl ⟨rfl, ?_⟩⟩
      rcases hown.2 with ⟨h, -⟩ | ⟨g, cap, cur, h, -⟩
      · exact ⟨_, _, h⟩
      · exact ⟨_, _, h⟩
  · have hE := h
    obtain ⟨b, o, c, rfl, -, -, -, -⟩ := h.resolve_right (fun h => h0 h.1)
    have hcell : ∀ j, j < l.length * 3 → ∃ u, w.cell? ⟨b, o + j, none⟩ = some u ∧ u.oneCell' = true := by
      intro j hj
      obtain ⟨x, hx⟩ : ∃ x, l[j / 3]? = some x := ⟨_, List.getElem?_eq_getElem (by omega)⟩
      obtain ⟨vx, tx, x0, x1, x2, -, -⟩ := hE.elem hx
      obtain ⟨ax, cx, ex⟩ := tx.form
      simp only [List.cons.injEq, and_true, true_and] at ex
      subst ex
      rcases (by omega : j % 3 = 0 ∨ j % 3 = 1 ∨ j % 3 = 2) with hr | hr | hr
      · exact ⟨_, by rw [show o + j = o + j / 3 * 3 by omega]; exact x0, rfl⟩
      · exact ⟨_, by rw [show o + j = o + j / 3 * 3 + 1 by omega]; exact x1, rfl⟩
      · exact ⟨_, by rw [show o + j = o + j / 3 * 3 + 2 by omega]; exact x2, rfl⟩
    have hvl : ((List.range (l.length * 3)).map fun j => (w.cell? ⟨b, o + j, none⟩).getD (.bool false)).length = l.length * 3 := by simp
    have hvals : ∀ (j : Nat) u, ((List.range (l.length * 3)).map fun j => (w.cell? ⟨b, o + j, none⟩).getD (.bool false))[j]? = some u → w.cell? ⟨b, o + j, none⟩ = some u ∧ u.oneCell' = true := by
      intro j u hu
      obtain ⟨hj, e⟩ := List.getElem?_eq_some_iff.1 hu
      rw [hvl] at hj
      obtain ⟨u', h1, h2⟩ := hcell j hj
      simp [h1] at e
      subst e
      exact ⟨h1, h2⟩
    have hget : ∀ (j : Nat) u, j < l.length * 3 → w.cell? ⟨b, o + j, none⟩ = some u → ((List.range (l.length * 3)).map fun j => (w.cell? ⟨b, o + j, none⟩).getD (.bool false))[j]? = some u := by
      intro j u hj hu
      simp [hj, hu]
    generalize ((List.range (l.length * 3)).map fun j => (w.cell? ⟨b, o + j, none⟩).getD (.bool false)) = vals at hvl hvals hget
    refine (clone_rawT w ⟨b, o, none⟩ l.length c vals hvl (fun j u hj => by rw [addr_add]; exact (hvals j u hj).1) (fun u hu => by obtain ⟨j, hj⟩ := List.getElem?_of_mem hu; exact (hvals j u hj).2) hl).mono ?_
    rintro e w' ⟨v', rfl, hown, hb⟩
    refine ⟨v', rfl, hb, .inr ?_⟩
    rcases hown.2 with ⟨-, hz⟩ | ⟨g, cap, cur, rfl, hg, hh, hc, hm, hs, ht⟩
    · exact absurd (List.eq_nil_of_length_eq_zero hz) h0
    · refine ⟨g, cap, cur.toList, rfl, hg, hc, ⟨by rw [hh]⟩, fun i x hx => ?_⟩
      have hi := (List.getElem?_eq_some_iff.1 hx).1
      obtain ⟨vx, tx, x0, x1, x2, -, -⟩ := hE.elem hx
      obtain ⟨ax, cx, ex⟩ := tx.form
      simp only [List.cons.injEq, and_true, true_and] at ex
      subst ex
      have hcur : ∀ (j : Nat) u, vals[j]? = some u → cur.toList[j]? = some u := by
        intro j u hu
        rw [← ht] at hu
        rw [List.getElem?_take] at hu
        split at hu
        · exact hu
        · cases hu
      refine ⟨ax, cx, tx, fun j u hu => ?_⟩
      match j, hu with
      | 0, hu => simp at hu; subst hu; exact hcur _ _ (hget _ _ (by omega) (by rw [← Nat.add_assoc]; exact x0))
      | 1, hu => simp at hu; subst hu; exact hcur _ _ (hget _ _ (by omega) (by rw [← Nat.add_assoc]; exact x1))
      | 2, hu => simp at hu; subst hu; exact hcur _ _ (hget _ _ (by omega) (by rw [← Nat.add_assoc]; exact x2))
      | j + 3, hu => simp at hu
/-- What is made of a node, in new memory. -/
def MadeOf (g : FuncId) (fs : Array Value) (m : Tp → Tp) (w : World) (n : Nat) : Prop :=
  ∀ (wz : World) (vs : List Value) (t : Tp), Below w.heap.size w wz → TAt w (fun b => b < w.heap.size) n vs t → (m t).cnt ≤ 1000 →
    Calls Tryz.prog g (fs ++ #[.agg vs.toArray]) wz fun e w' => ∃ vs' n', e = .returned (.agg vs'.toArray) ∧ TAt w' (fun b => wz.heap.size ≤ b) n' vs' (m t) ∧ Below wz.heap.size wz w'
theorem Tp.cntL_len : ∀ l : List Tp, l.length ≤ Tp.cntL l
  | [] => Nat.le_refl _
  | x :: r => by rw [Tp.cntL]; have := Tp.cntL_len r; have : 1 ≤ x.cnt := (by cases x; rw [Tp.cnt]; omega); simp; omega
theorem Tp.cnt_le_cntL {l : List Tp} {x : Tp} (h : x ∈ l) : x.cnt ≤ Tp.cntL l := by
  induction l with
  | nil => cases h
  | cons y r ih =>
    rw [Tp.cntL]
    rcases List.mem_cons.1 h with rfl | h
    · omega
    · have := ih h; omega

theorem Seg.set3 {cur : List Value} {o : Nat} {a b c : Value} (h : o + 2 < cur.length) : Seg (((cur.set o a).set (o + 1) b).set (o + 2) c) o [a, b, c] := by
  intro j v hv
  match j, hv with
  | 0, hv => simp at hv; subst hv; simp [List.getElem?_set]; omega
  | 1, hv => simp at hv; subst hv; simp [List.getElem?_set]; omega
  | 2, hv => simp at hv; subst hv; simp [List.getElem?_set]; omega
  | j + 3, hv => simp at hv
theorem Seg.other3 {cur : List Value} {o p : Nat} {a b c : Value} {vs : List Value} (h : Seg cur p vs) (hv : vs.length = 3) (hp : p + 2 < o ∨ o + 2 < p) : Seg (((cur.set o a).set (o + 1) b).set (o + 2) c) p vs := by
  intro j v hj
  have hj3 := (List.getElem?_eq_some_iff.1 hj).1
  have := h j v hj
  rw [List.getElem?_set_ne (by omega), List.getElem?_set_ne (by omega), List.getElem?_set_ne (by omega)]
  exact this
end Go.Proofs.YtjodgnkhociaaaaGreat
