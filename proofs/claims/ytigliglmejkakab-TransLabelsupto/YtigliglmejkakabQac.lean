/- Lists of ints in memory; Index, Contains; which kinds stand in a type. New memory: Clone, renewed. The meter; Size, Fits. by: what is put in for a node. renewed: a node with what is made of each of its parts, in new memory. An append: the row is the old one, or a new one. The document's own: place, In, counted, Size, Fits, grown. -/
import Derived.BigQuiet
import Derived.Laws.AppendOwn
import Derived.Laws.AppendOwnNone
import Derived.Lib.SliceRun
import Derived.Deep.RegionHeld
import Derived.Laws.ResultCell
import Derived.Test.YtigliglmejkakabQab
namespace Go.Proofs.Ytigliglmejkakab
open Go.RowKit
set_option linter.unusedVariables false
set_option linter.unusedSimpArgs false

/-- A slice of ints, in a block of K. -/
def Ls (w : World) (K : Nat → Prop) (v : Value) (l : List Int) : Prop :=
  (∃ b o c, v = .slice (some ⟨b, o, none⟩) l.length c ∧ K b ∧ l.length ≤ c ∧ l.length ≤ maxLen ∧ ∀ (j : Nat) x, l[j]? = some x → w.cell? ⟨b, o + j, none⟩ = some (.int .i64 x)) ∨ (l = [] ∧ ∃ p c, v = .slice p 0 c)
theorem Ls.move {w w' : World} {K K' : Nat → Prop} {v : Value} {l : List Int} (h : Ls w K v l) (hk : Keeps K w w') (hK : ∀ b, K b → K' b) : Ls w' K' v l := by
  rcases h with ⟨b, o, c, hv, hb, hc, hm, hl⟩ | h
  · exact .inl ⟨b, o, c, hv, hK b hb, hc, hm, fun j x hx => hk _ _ _ hb (hl j x hx)⟩
  · exact .inr h
theorem Ls.below {w w' : World} {K : Nat → Prop} {v : Value} {l : List Int} (h : Ls w K v l) (hb : Below w.heap.size w w') : Ls w' K v l := h.move (Keeps.of_below hb) fun _ h => h
theorem Ls.any {w : World} {K : Nat → Prop} {v : Value} {l : List Int} (h : Ls w K v l) : Ls w Any v l := h.move (Keeps.refl _ _) fun _ _ => trivial
theorem Ls.form {w : World} {K : Nat → Prop} {v : Value} {l : List Int} (h : Ls w K v l) : ∃ a c, v = .slice a l.length c ∧ l.length ≤ maxLen := by
  rcases h with ⟨b, o, c, rfl, -, -, hm, -⟩ | ⟨rfl, p, c, rfl⟩
  · exact ⟨_, _, rfl, hm⟩
  · exact ⟨_, _, rfl, Nat.zero_le _⟩
theorem Ls.oldK {w : World} {own : Nat → Prop} {v : Value} {l : List Int} (h : Ls w (fun b => ¬ own b) v l) : Ls w (Free own w) v l := by
  rcases h with ⟨b, o, c, hv, hb, hc, hm, hl⟩ | h
  · cases l with
    | nil => exact .inr ⟨rfl, _, _, hv⟩
    | cons x r => exact .inl ⟨b, o, c, hv, ⟨World.block_lt_of_cell? w _ (hl 0 x rfl), hb⟩, hc, hm, hl⟩
  · exact .inr h
theorem Ls.old {w : World} {K : Nat → Prop} {v : Value} {l : List Int} (h : Ls w K v l) : Ls w (fun b => b < w.heap.size) v l := by
  rcases h with ⟨b, o, c, hv, hb, hc, hm, hl⟩ | h
  · cases l with
    | nil => exact .inr ⟨rfl, _, _, hv⟩
    | cons x r => exact .inl ⟨b, o, c, hv, World.block_lt_of_cell? w _ (hl 0 x rfl), hc, hm, hl⟩
  · exact .inr h
theorem Tp.idx_at {n : Int} {l : List Int} {k : Nat} {x : Int} (hx : l[k]? = some x) : Tp.idx n (l.drop k) k = if x = n then (k : Int) else Tp.idx n (l.drop (k + 1)) (k + 1) := by
  obtain ⟨h1, e1⟩ := List.getElem?_eq_some_iff.1 hx
  rw [List.drop_eq_getElem_cons h1, e1, Tp.idx]

set_option maxHeartbeats 1000000 in
set_option maxRecDepth 100000 in
theorem idxB_any (w : World) (v : Value) (l : List Int) (n : Int) (h : Ls w Any v l) : Calls Try.prog 71 #[v, .int .i64 n] w fun e w' => e = .returned (.int .i64 (Tp.idx n l 0)) ∧ w' = w := by
  obtain ⟨a, c, rfl, hm⟩ := h.form
  unfold maxLen at hm
  go_enter Try.func71, Try.ntmps71
  go_wp2
  go_loopw [8] (fun v wr => ∃ k : Nat, v = .int .i64 k ∧ k ≤ l.length ∧ Hid (Tp.idx n l 0 = Tp.idx n (l.drop k) k) ∧ wr = w) (fun v _ => l.length - (intOf v).toNat)
  case atStart => exact ⟨0, rfl, Nat.zero_le _, rfl, rfl⟩
  case round =>
    obtain ⟨k, rfl, hk, hH, rfl⟩ := hrel
    by_cases hlt : k < l.length
    · obtain ⟨b, o, c', hv, -, -, -, hl⟩ := h.resolve_right (fun h => by rw [h.1] at hlt; exact absurd hlt (Nat.not_lt_zero _))
      injection hv with e1 e2 e3
      subst e1
      obtain ⟨x, hx⟩ : ∃ x, l[k]? = some x := ⟨_, List.getElem?_eq_getElem hlt⟩
      have hc := hl k x hx
      have HX := hH.out
      rw [Tp.idx_at hx] at HX
      clear hl hx hH h e2 e3
      by_cases he : x = n
      · rw [if_pos he] at HX
        have HY : Hid (Tp.idx n l 0 = (k : Int)) := HX
        have he2 : (n == x) = true := by rw [beq_iff_eq]; exact he.symm
        clear HX he
        go_wp2
        go_ret
        exact ⟨ret_int HY.out.symm, rfl⟩
      · rw [if_neg he] at HX
        have HY : Hid (Tp.idx n l 0 = Tp.idx n (l.drop (k + 1)) (k + 1)) := HX
        have he2 : (n == x) = false := by rw [beq_eq_false_iff_ne]; exact fun e => he e.symm
        clear HX he
        go_wp2
        go_roundw
        case rel => exact ⟨k + 1, by go_num, by omega, HY, by first | trivial | rfl⟩
        case measure => simp [intOf]; omega
    · have HX : Hid (Tp.idx n l 0 = -1) := by
        show _ = _
        rw [hH.out, List.drop_eq_nil_of_le (by omega)]; rfl
      clear hH h
      go_wp2
      go_ret
      exact ⟨ret_int HX.out.symm, rfl⟩

theorem Tp.idx_neg (n : Int) : ∀ (l : List Int) (i : Nat), (0 ≤ Tp.idx n l i) ↔ n ∈ l
  | [], i => by simp [Tp.idx]
  | x :: r, i => by
    rw [Tp.idx]
    by_cases h : x = n
    · rw [if_pos h]; simp [h]
    · rw [if_neg h, Tp.idx_neg n r (i + 1), List.mem_cons]
      exact ⟨.inr, fun h2 => h2.elim (fun e => absurd e.symm h) id⟩
theorem containsB_any (w : World) (v : Value) (l : List Int) (n : Int) (h : Ls w Any v l) : Calls Try.prog 54 #[v, .int .i64 n] w fun e w' => e = .returned (.bool (decide (n ∈ l))) ∧ w' = w := by
  have hq : Hid (Calls Try.prog 71 #[v, .int .i64 n] w fun e w' => e = .returned (.int .i64 (Tp.idx n l 0)) ∧ w' = w) := idxB_any w v l n h
  have hd : decide (0 ≤ Tp.idx n l 0) = decide (n ∈ l) := decide_eq_decide.2 (Tp.idx_neg n l 0)
  have HD : Hid (decide (0 ≤ Tp.idx n l 0) = decide (n ∈ l)) := hd
  clear h hd
  generalize Tp.idx n l 0 = q at hq HD
  go_enter Try.func54, Try.ntmps54
  go_wp2_with (go_at_call 71; refine hq.out.mono ?_; rintro e w2 ⟨rfl, hw⟩; rw [hw]; clear hw w2)
  go_ret
  exact ⟨ret_bool HD.out, rfl⟩
set_option maxRecDepth 100000 in
theorem spares_any (w : World) (v : Value) (l : List Int) (k n : Int) (u : Value) (h : Ls w Any v l) : Calls Try.prog 33 #[v, .agg #[.int .i64 k, .int .i64 n, u]] w fun e w' => e = .returned (.tuple #[.bool true, .bool (!decide (k ∈ l))]) ∧ Below w.heap.size w w' := by
  have hq : Hid (∀ o, Calls Try.prog 54 #[v, .int .i64 k] (w.alloc o) fun e w' => e = .returned (.bool (decide (k ∈ l))) ∧ w' = w.alloc o) := fun o => containsB_any _ v l k (h.below (bl_alloc (Below.refl _ _) _))
  clear h
  go_enter Try.func33, Try.ntmps33
  go_wp2_with (go_at_call 54; refine (hq.out _).mono ?_; rintro e w2 ⟨rfl, hw⟩; rw [hw]; clear hw w2)
  go_ret2
  exact ⟨rfl, bl_alloc (Below.refl _ _) _⟩
def ISpare (v : Value) (l : List Int) (W : World) (s : Unit) (own : Nat → Prop) (w : World) : Prop := (∀ b, ¬ own b) ∧ Below W.heap.size W w ∧ Ls w Any v l
theorem ISpare.steady (v : Value) (l : List Int) (W : World) : Steady (ISpare v l W) := ⟨fun s own w w' h hb => ⟨h.1, bl_tr h.2.1 hb, h.2.2.below hb⟩, fun s own w b h ho => absurd ho (h.1 b)⟩
theorem spare_see (v : Value) (l : List Int) (W w0 : World) (o0 : Nat → Prop) (n : Nat) : SeeOf 33 #[v] (Tp.fSpare l) (ISpare v l W) o0 w0 n := by
  intro w own s vs t hI hE hT
  obtain ⟨a, c, rfl⟩ := hT.form
  refine (spares_any w v l t.k t.n _ hI.2.2).mono ?_
  rintro e w' ⟨rfl, hb⟩
  exact ⟨rfl, own, ⟨hI.1, bl_tr hI.2.1 hb, hI.2.2.below hb⟩, Ev.of_below hb⟩
theorem enters_spares : Enters 33 := enters_of Try.func33 (by kernel_rfl) rfl
theorem walk_spare (v : Value) (l : List Int) (w : World) (n : Nat) (vs : List Value) (t : Tp) (hT : TAt w Any n vs t) (h : Ls w Any v l) : Calls Try.prog 31 #[.agg vs.toArray, .func (.func 33) #[v] #[]] w fun e w' => e = .returned (.bool (Tp.spares l t)) ∧ Below w.heap.size w w' := by
  have hT1 : TAt w (Free (fun _ => False) w) n vs t := (TAt.old hT).move (Keeps.refl _ _) fun b h => ⟨h, fun h => h⟩
  refine (walk_any _ _ _ (ISpare v l w) (fun _ => False) w (ISpare.steady v l w) enters_spares (spare_see v l w w _) n w (fun _ => False) () vs t ⟨fun _ h => h, Below.refl _ _, h⟩ (Ev.refl _ _) hT1).mono ?_
  rintro e w' ⟨rfl, own', hI, -⟩
  exact ⟨by rw [Tp.walk_spare], hI.2.1⟩

set_option maxRecDepth 100000 in
theorem Closed_any (w : World) (n : Nat) (vs : List Value) (t : Tp) (hT : TAt w Any n vs t) : Calls Try.prog 21 #[.agg vs.toArray] w fun e w' => e = .returned (.bool (Tp.spares [7, 8] t)) ∧ Below w.heap.size w w' := by
  have hq : Hid (∀ o T, Calls Try.prog 31 #[.agg vs.toArray, .func (.func 33) #[.slice (some ⟨w.heap.size + 1, 0, none⟩) 2 2] #[]] ((w.alloc o).alloc (.cells #[.int .i64 7, .int .i64 8] T)) fun e w' => e = .returned (.bool (Tp.spares [7, 8] t)) ∧ Below w.heap.size w w') := by
    intro o T
    have hb : Below w.heap.size w ((w.alloc o).alloc (.cells #[.int .i64 7, .int .i64 8] T)) := bl_alloc (bl_alloc (Below.refl _ _) _) _
    refine (walk_spare _ [7, 8] _ n vs t (hT.below hb) (.inl ⟨w.heap.size + 1, 0, 2, rfl, trivial, by decide, by decide, ?_⟩)).mono ?_
    · intro j x hx
      have hh := heap_alloc_at (w.alloc o) (.cells #[.int .i64 7, .int .i64 8] T)
      rw [size_alloc] at hh
      match j, hx with
      | 0, hx => simp at hx; subst hx; rw [cell_at hh]; rfl
      | 1, hx => simp at hx; subst hx; rw [cell_at hh]; rfl
      | j + 2, hx => simp at hx
    · rintro e w' ⟨rfl, h2⟩
      exact ⟨rfl, bl_tr hb h2⟩
  obtain ⟨a, c, rfl⟩ := hT.form
  clear hT
  go_enter Try.func21, Try.ntmps21
  go_wp2_with (go_at_call 31; refine (hq.out _ _).mono ?_; rintro e w2 ⟨rfl, hb2⟩)
  go_ret
  exact ⟨rfl, hb2⟩
end Go.Proofs.Ytigliglmejkakab

namespace Go.Proofs.Ytigliglmejkakab
open Go.RowKit
set_option linter.unusedVariables false
set_option linter.unusedSimpArgs false

theorem info_parts0 {P : Program} {t : TypeId} {z : Value} {s b : Nat} (h : (P.info? t).map (fun i => (i.zero, i.size, i.bytes)) = some (some z, s, b)) : ∃ i, P.info? t = some i ∧ i.zero = some z ∧ i.size = s ∧ i.bytes = b := by
  cases hi : P.info? t with
  | none => rw [hi] at h; cases h
  | some i =>
    rw [hi] at h
    simp only [Option.map_some, Option.some.injEq, Prod.mk.injEq] at h
    exact ⟨i, rfl, h.1, h.2.1, h.2.2⟩
theorem row_new (w : World) (t : TypeId) (k : Nat) : (w.alloc (.cells #[] t)).ownsRow w.heap.size t k (.slice (some ⟨w.heap.size, 0, none⟩) 0 0) 0 [] := by
  refine ⟨(Nat.zero_mul k).symm, .inr ⟨w.heap.size, 0, #[], rfl, Nat.le_refl _, ?_, Nat.le_refl _, Nat.zero_le _, (Nat.zero_mul k).symm, by simp⟩⟩
  show (w.heap.push _)[w.heap.size]? = _
  simp
/-- What Clone gives of n things of k cells each, whose cells hold these values. -/
def Cloned (w : World) (e : TypeId) (k n : Nat) (vals : List Value) (x : Ending) (w' : World) : Prop := ∃ v', x = .returned v' ∧ w'.ownsRow w.heap.size e k v' n vals ∧ Below w.heap.size w w'

theorem info_clT : (Try.prog.info? 39).map (fun i => (i.zero, i.size, i.bytes)) = some (some (.agg #[.int .i64 0, .int .i64 0, .slice none 0 0]), 3, 40) := by kernel_rfl
theorem TAtL.old {w : World} {K : Nat → Prop} {n : Nat} {v : Value} {l : List Tp} (h : TAtL w K n v l) : TAtL w (fun b => b < w.heap.size) n v l := by
  rcases h with ⟨b, o, c, hv, hb, hl, hm, hc⟩ | h
  · cases l with
    | nil => exact .inr ⟨rfl, _, _, hv⟩
    | cons x r =>
      refine .inl ⟨b, o, c, hv, ?_, hl, hm, fun i y hy => ?_⟩
      · obtain ⟨vs', g1, g2⟩ := hc 0 x rfl
        obtain ⟨a, c2, rfl⟩ := g2.form
        exact World.block_lt_of_cell? w _ (g1 0 _ rfl)
      · obtain ⟨vs', g1, g2⟩ := hc i y hy
        exact ⟨vs', g1, TAt.old g2⟩
  · exact .inr h
theorem bl_dN {w w1 : World} (h : Below w.heap.size w w1) (n : Nat) : Below w.heap.size w (w1.drewN n) := bl_tr h (bl_drewN _ _)
theorem bl_dr {w w1 : World} (h : Below w.heap.size w w1) : Below w.heap.size w w1.drew := h.drew
theorem bl_set {w w1 : World} (p : Addr) (u : Value) (h : Below w.heap.size w w1) (hp : w.heap.size ≤ p.block) : Below w.heap.size w (w1.setCell p u) := h.setCell hp u

/-- A block that holds these values, and may be written. -/
structure Arr (w : World) (g : Nat) (T : TypeId) (cur : List Value) : Prop where
  b : w.heap[g]? = some (.cells cur.toArray T (0, 0))
theorem Arr.lt {w : World} {g : Nat} {T : TypeId} {cur : List Value} (h : Arr w g T cur) : g < w.heap.size := by
  rcases Nat.lt_or_ge g w.heap.size with h' | h'
  · exact h'
  · have := h.b; simp [Array.getElem?_eq_none h'] at this
theorem Arr.cell {w : World} {g : Nat} {T : TypeId} {cur : List Value} (h : Arr w g T cur) (j : Nat) : w.cell? ⟨g, j, none⟩ = cur[j]? := by rw [cell_at h.b]; simp
theorem Arr.frozen {w : World} {g : Nat} {T : TypeId} {cur : List Value} (h : Arr w g T cur) (j : Nat) : w.frozen? ⟨g, j, none⟩ = false := by simp [World.frozen?, h.b]
theorem Arr.set {w : World} {g : Nat} {T : TypeId} {cur : List Value} (h : Arr w g T cur) (j : Nat) (u : Value) : Arr (w.setCell ⟨g, j, none⟩ u) g T (cur.set j u) := by
  constructor
  simp [World.setCell, Array.getElem?_modify, h.b]
theorem Arr.stays {w w' : World} {g : Nat} {T : TypeId} {cur : List Value} (h : Arr w g T cur) (hb : Below w.heap.size w w') : Arr w' g T cur := ⟨by rw [hb.block g h.lt]; exact h.b⟩
theorem Arr.other {w : World} {g : Nat} {T : TypeId} {cur : List Value} (h : Arr w g T cur) {p : Addr} (hp : g ≠ p.block) (u : Value) : Arr (w.setCell p u) g T cur := ⟨by rw [Below.heap_setCell _ _ _ _ hp]; exact h.b⟩
/-- vs stands in cur from o on. -/
def Seg (cur : List Value) (o : Nat) (vs : List Value) : Prop := ∀ (j : Nat) v, vs[j]? = some v → cur[o + j]? = some v
theorem Seg.cells {w : World} {g : Nat} {T : TypeId} {cur : List Value} (h : Arr w g T cur) {o : Nat} {vs : List Value} (hs : Seg cur o vs) : Cells w g o vs := fun j v hv => (h.cell _).trans (hs j v hv)
theorem Keeps.set {K : Nat → Prop} {w : World} {p : Addr} (hp : ¬ K p.block) (u : Value) : Keeps K w (w.setCell p u) := fun b o v hb hv => by
  rw [World.cell?_of_block (w := w) (Below.heap_setCell _ _ _ _ (fun e => hp (show K p.block from e ▸ hb)))]
  exact hv
end Go.Proofs.Ytigliglmejkakab

namespace Go.Proofs.Ytigliglmejkakab
open Go.RowKit
set_option linter.unusedVariables false

/-- A number in the first cell of a block that may be written; the rest of the block is cs. -/
structure Mtr (M : Nat) (cs : List Value) (T : TypeId) (s : Int) (w : World) : Prop where
  block : w.heap[M]? = some (.cells (.int .i64 s :: cs).toArray T (0, 0))
theorem Mtr.lt {M : Nat} {cs : List Value} {T : TypeId} {s : Int} {w : World} (h : Mtr M cs T s w) : M < w.heap.size := by
  rcases Nat.lt_or_ge M w.heap.size with h' | h'
  · exact h'
  · have := h.block; simp [Array.getElem?_eq_none h'] at this
theorem Mtr.cell {M : Nat} {cs : List Value} {T : TypeId} {s : Int} {w : World} (h : Mtr M cs T s w) : w.cell? ⟨M, 0, none⟩ = some (.int .i64 s) := by
  simp [World.cell?, h.block]
theorem Mtr.frozen {M : Nat} {cs : List Value} {T : TypeId} {s : Int} {w : World} (h : Mtr M cs T s w) : w.frozen? ⟨M, 0, none⟩ = false := by
  simp [World.frozen?, h.block]
theorem Mtr.rest {M : Nat} {cs : List Value} {T : TypeId} {s : Int} {w : World} (h : Mtr M cs T s w) (j : Nat) (v : Value) (hv : cs[j]? = some v) : w.cell? ⟨M, j + 1, none⟩ = some v := by
  simp [World.cell?, h.block, hv]
theorem Mtr.stays {M : Nat} {cs : List Value} {T : TypeId} {s : Int} {w w' : World} (h : Mtr M cs T s w) (hb : Below w.heap.size w w') : Mtr M cs T s w' := ⟨by rw [hb.block M h.lt]; exact h.block⟩
theorem Mtr.set {M : Nat} {cs : List Value} {T : TypeId} {s : Int} {w : World} (h : Mtr M cs T s w) (s' : Int) : Mtr M cs T s' (w.setCell ⟨M, 0, none⟩ (.int .i64 s')) := by
  constructor
  simp [World.setCell, Array.getElem?_modify, h.block]
theorem Ev.set {own o1 : Nat → Prop} {w w1 : World} (h : Ev own w o1 w1) {p : Addr} (hp : o1 p.block) (u : Value) : Ev own w o1 (w1.setCell p u) :=
  h.trans ⟨rfl, rfl, rfl, by simp [World.setCell], fun _ h => .inl h, fun b hb hn => Below.heap_setCell _ _ _ _ (fun e => hn (e ▸ hp))⟩
/-- The meter in block M, nothing else is written. -/
def ICount (M : Nat) (cs : List Value) (T : TypeId) (s : Int) (own : Nat → Prop) (w : World) : Prop := Mtr M cs T s w ∧ own = (fun b => b = M)
theorem ICount.steady (M : Nat) (cs : List Value) (T : TypeId) : Steady (ICount M cs T) := ⟨fun s own w w' h hb => ⟨h.1.stays hb, h.2⟩, fun s own w b h ho => by rw [h.2] at ho; rw [ho]; exact h.1.lt⟩

end Go.Proofs.Ytigliglmejkakab

namespace Go.Proofs.Ytigliglmejkakab
open Go.RowKit
set_option linter.unusedVariables false
set_option linter.unusedSimpArgs false

theorem Tp.idx_lt (n : Int) : ∀ (l : List Int) (i : Nat), Tp.idx n l i < (i : Int) + l.length ∨ Tp.idx n l i = -1
  | [], i => .inr rfl
  | x :: r, i => by
    rw [Tp.idx]
    by_cases h : x = n
    · rw [if_pos h]; left; simp; omega
    · rw [if_neg h]
      rcases Tp.idx_lt n r (i + 1) with h2 | h2
      · left; simp at h2 ⊢; omega
      · exact .inr h2
theorem Tp.idx_nonneg (n : Int) : ∀ (l : List Int) (i : Nat), 0 ≤ Tp.idx n l i ∨ Tp.idx n l i = -1
  | [], i => .inr rfl
  | x :: r, i => by
    rw [Tp.idx]
    by_cases h : x = n
    · rw [if_pos h]; left; omega
    · rw [if_neg h]; exact Tp.idx_nonneg n r (i + 1)
/-- by, where the node is of another kind, or its number is none of from. -/
theorem Tp.by_none {kind : Int} {fr : List Int} {to : List Tp} {k n : Int} (hlen : fr.length = to.length) (h : Tp.by kind fr to k n = none) : k ≠ kind ∨ (k = kind ∧ Tp.idx n fr 0 = -1) := by
  unfold Tp.by at h
  by_cases hk : k = kind
  · rw [if_pos hk] at h
    refine .inr ⟨hk, ?_⟩
    rcases Tp.idx_nonneg n fr 0 with h2 | h2
    · rw [if_pos h2] at h
      rcases Tp.idx_lt n fr 0 with h3 | h3
      · rw [List.getElem?_eq_none_iff] at h; omega
      · omega
    · exact h2
  · exact .inl hk
theorem Tp.by_some {kind : Int} {fr : List Int} {to : List Tp} {k n : Int} {u : Tp} (h : Tp.by kind fr to k n = some u) : k = kind ∧ ∃ i : Nat, Tp.idx n fr 0 = (i : Int) ∧ to[i]? = some u := by
  unfold Tp.by at h
  by_cases hk : k = kind
  · rw [if_pos hk] at h
    by_cases h2 : 0 ≤ Tp.idx n fr 0
    · rw [if_pos h2] at h
      exact ⟨hk, (Tp.idx n fr 0).toNat, by omega, h⟩
    · rw [if_neg h2] at h; cases h
  · rw [if_neg hk] at h; cases h

end Go.Proofs.Ytigliglmejkakab

namespace Go.Proofs.Ytigliglmejkakab
open Go.RowKit
set_option linter.unusedVariables false
set_option linter.unusedSimpArgs false

theorem results_cell1 {fn : Func} {p : Tmp} {ty : TypeId} (h : fn.results = #[.cell p ty]) (tmps : Array Value) (P : Program) (w : World) :
    (results fn tmps).run P w = ((asAddr (tmps.getD p undef)).run P w).andThen fun a w₁ => ((loadVar ty a).run P w₁) := by
  simp only [results, h]
  simp [Sem.run_bind, Result.andThen]
theorem addr_add (b o k : Nat) : (⟨b, o, none⟩ : Addr).add k = ⟨b, o + k, none⟩ := by
  unfold Addr.add
  by_cases h : k = 0
  · subst h; simp
  · simp [h]
/-- What Clone leaves: the same values, in a block of its own. -/
def CloneT (w : World) (K : Nat → Prop) (n : Nat) (l : List Tp) (e : Ending) (w' : World) : Prop := ∃ v', e = .returned v' ∧ Below w.heap.size w w' ∧ ((l = [] ∧ ∃ p c, v' = .slice p 0 c) ∨ ∃ g cap cur, v' = .slice (some ⟨g, 0, none⟩) l.length cap ∧ w.heap.size ≤ g ∧ l.length ≤ cap ∧ Arr w' g 39 cur ∧ ∀ (i : Nat) x, l[i]? = some x → ∃ a c, TAt w K n [.int .i64 x.k, .int .i64 x.n, .slice a x.ks.length c] x ∧ Seg cur (i * 3) [.int .i64 x.k, .int .i64 x.n, .slice a x.ks.length c])
/-- What is made of a node, in new memory. -/
def MadeOf (g : FuncId) (fs : Array Value) (m : Tp → Tp) (w : World) (n : Nat) : Prop :=
  ∀ (wz : World) (vs : List Value) (t : Tp), Below w.heap.size w wz → TAt w (fun b => b < w.heap.size) n vs t → (m t).cnt ≤ 1000 →
    Calls Try.prog g (fs ++ #[.agg vs.toArray]) wz fun e w' => ∃ vs' n', e = .returned (.agg vs'.toArray) ∧ TAt w' (fun b => wz.heap.size ≤ b) n' vs' (m t) ∧ Below wz.heap.size wz w'
theorem Tp.cntL_len : ∀ l : List Tp, l.length ≤ Tp.cntL l
  | [] => Nat.le_refl _
  | x :: r => by rw [Tp.cntL]; have := Tp.cntL_len r; have : 1 ≤ x.cnt := (by cases x; rw [Tp.cnt]; omega); simp; omega
theorem Tp.cnt_le_cntL {l : List Tp} {x : Tp} (h : x ∈ l) : x.cnt ≤ Tp.cntL l := by
  induction l with
  | nil => cases h
  | cons y r ih =>
    rw [Tp.cntL]
    rcases List.mem_cons.1 h with rfl | h
    · omega
    · have := ih h; omega

theorem Seg.set3 {cur : List Value} {o : Nat} {a b c : Value} (h : o + 2 < cur.length) : Seg (((cur.set o a).set (o + 1) b).set (o + 2) c) o [a, b, c] := by
  intro j v hv
  match j, hv with
  | 0, hv => simp at hv; subst hv; simp [List.getElem?_set]; omega
  | 1, hv => simp at hv; subst hv; simp [List.getElem?_set]; omega
  | 2, hv => simp at hv; subst hv; simp [List.getElem?_set]; omega
  | j + 3, hv => simp at hv
theorem Seg.other3 {cur : List Value} {o p : Nat} {a b c : Value} {vs : List Value} (h : Seg cur p vs) (hv : vs.length = 3) (hp : p + 2 < o ∨ o + 2 < p) : Seg (((cur.set o a).set (o + 1) b).set (o + 2) c) p vs := by
  intro j v hj
  have hj3 := (List.getElem?_eq_some_iff.1 hj).1
  have := h j v hj
  rw [List.getElem?_set_ne (by omega), List.getElem?_set_ne (by omega), List.getElem?_set_ne (by omega)]
  exact this
end Go.Proofs.Ytigliglmejkakab

namespace Go.Proofs.Ytigliglmejkakab
open Go.RowKit
set_option linter.unusedVariables false

/-- The row of an append is the old one, or a new one. -/
def Fresh (w : World) (v v' : Value) : Prop := v'.ownBlock = v.ownBlock ∨ ∀ k, v'.ownBlock = some k → w.heap.size ≤ k
theorem append_own2 {P : Program} (w : World) (base : Nat) (t ty e : TypeId) (i : TypeInfo) (z : Value) (size bytes : Nat) (ht : P.underlying t = some (.slice e)) (hi : P.info? e = some i) (hz : i.zero = some z)
    (hsize : i.size = size) (hby : i.bytes = bytes) (hzs : z.cells.size = size) (hsz : 0 < size) (v : Value) (n : Nat) (xs : List Value) (hown : w.ownsRow base e size v n xs)
    (a : Addr) (m c : Nat) (news : List Value) (hl : news.length = m * size) (hnews : ∀ j u, news[j]? = some u → w.cell? (a.add j) = some u) (h1 : ∀ u ∈ news, u.oneCell' = true)
    (h63 : n + m ≤ maxLen) (hbytes : (n + m) * bytes ≤ 140737488355328) (hbase : base ≤ w.heap.size) :
    ∃ v' w', (Builtin.append_ #[t, t] ty #[v, .slice (some a) m c]).run P w = .ok v' w' ∧ w'.ownsRow base e size v' (n + m) (xs ++ news) ∧ w.grownBy w' v.ownBlock ∧ Fresh w v v' := by
  obtain ⟨v', w', hr, h2, h3, -⟩ := run_append_own (P := P) w base t ty e i z size bytes ht hi hz hsize hby hzs hsz v n xs hown a m c news hl hnews h1 h63 hbytes hbase
  refine ⟨v', w', hr, h2, h3, ?_⟩
  rcases hown.2 with ⟨hv, hn⟩ | ⟨g, cap, cur, hv, hbg, hg, hnc, hcm, hcs, htake⟩
  · have ho : w.ownsRow w.heap.size e size v n xs := ⟨hown.1, .inl ⟨hv, hn⟩⟩
    obtain ⟨v2, w2, hr2, h22, -, -⟩ := run_append_own (P := P) w w.heap.size t ty e i z size bytes ht hi hz hsize hby hzs hsz v n xs ho a m c news hl hnews h1 h63 hbytes (Nat.le_refl _)
    rw [hr] at hr2
    injection hr2 with e1 e2
    subst e1
    exact .inr fun k hk => (h22.lt k hk).1
  · subst hsize
    subst hby
    subst hv
    by_cases hroom : n + m ≤ cap
    · have hfit : n * i.size + news.length ≤ cur.size := by rw [hl, hcs, ← Nat.add_mul]; exact Nat.mul_le_mul_right _ hroom
      rw [run_append_room (P := P) w t ty e i ht hi g n cap cur hg a m c news hl hnews h1 hroom hfit] at hr
      injection hr with e1 e2
      subst e1
      exact .inl rfl
    · have h63' : ((n + m : Nat) : Int) ≤ 9223372036854775807 := by simp only [maxLen] at h63; omega
      rw [run_append_grow (P := P) w t ty e i z ht hi hz ⟨g, 0, none⟩ n cap xs hown.1 (hown.cells (g := g) rfl) a m c news hl hnews (by omega) h63' (growslice_fits (by omega) hbytes)] at hr
      injection hr with e1 e2
      subst e1
      refine .inr fun k hk => ?_
      simp [Value.ownBlock] at hk
      omega
/-- Such an append, as one operation of a region that draws its order. -/
theorem step_append2 {P : Program} {ops : Array Oper} {o : Oper} {a : Act} {w : World} {K : Act → World → Prop} {Q : Exit → Act → World → Prop} {E : Prop}
    (hgd : o.guard = none) (s x : Operand) (t : TypeId) (hop : o.op = .call { callee := .builtin .append, args := #[s, x], argTypes := #[t, t] })
    (base : Nat) (e : TypeId) (i : TypeInfo) (z : Value) (size bytes : Nat) (ht : P.underlying t = some (.slice e)) (hi : P.info? e = some i) (hz : i.zero = some z)
    (hsize : i.size = size) (hby : i.bytes = bytes) (hzs : z.cells.size = size) (hsz : 0 < size) (v : Value) (n : Nat) (xs : List Value) (hs : a.eval s = v) (hown : w.ownsRow base e size v n xs)
    (ad : Addr) (m c : Nat) (news : List Value) (hx : a.eval x = .slice (some ad) m c) (hl : news.length = m * size) (hnews : ∀ j u, news[j]? = some u → w.cell? (ad.add j) = some u) (h1 : ∀ u ∈ news, u.oneCell' = true)
    (h63 : n + m ≤ maxLen) (hbytes : (n + m) * bytes ≤ 140737488355328) (hbase : base ≤ w.heap.size)
    (hK : ∀ v' w', w'.ownsRow base e size v' (n + m) (xs ++ news) → w.grownBy w' v.ownBlock → Fresh w v v' → K (a.put o.dst v') w') :
    if Region.wanted o (yielded ops a.tmps) = true then Oper.wp P o a w K Q else E := by
  have hw : Region.wanted o (yielded ops a.tmps) = true := by simp [Region.wanted, hgd]
  rw [if_pos hw]
  obtain ⟨v', w', hr, h2, h3, h4⟩ := append_own2 (P := P) w base t o.type e i z size bytes ht hi hz hsize hby hzs hsz v n xs hown ad m c news hl hnews h1 h63 hbytes hbase
  unfold Oper.wp execOp
  simp only [hop, resolve, invoke, builtin, Sem.run_bind, Sem.run_pure, Result.andThen_ok, List.map_toArray, List.map_cons, List.map_nil, hs, hx, hr]
  exact hK v' w' h2 h3 h4
end Go.Proofs.Ytigliglmejkakab

namespace Go.Proofs.Ytigliglmejkakab
open Go.RowKit
set_option linter.unusedVariables false
set_option linter.unusedSimpArgs false

def Tp.has (n : Int) : List Int → Bool
  | [] => false
  | x :: r => if x = n then true else Tp.has n r
theorem Tp.has_at {n : Int} {l : List Int} {k : Nat} {x : Int} (hx : l[k]? = some x) : Tp.has n (l.drop k) = if x = n then true else Tp.has n (l.drop (k + 1)) := by
  obtain ⟨h1, e1⟩ := List.getElem?_eq_some_iff.1 hx
  rw [List.drop_eq_getElem_cons h1, e1, Tp.has]
theorem Tp.has_mem (n : Int) : ∀ l : List Int, Tp.has n l = decide (n ∈ l)
  | [] => by simp [Tp.has]
  | x :: r => by
    rw [Tp.has, Tp.has_mem n r]
    by_cases h : x = n
    · rw [if_pos h]; simp [h]
    · rw [if_neg h, decide_eq_decide, List.mem_cons]
      exact ⟨.inr, fun h2 => h2.elim (fun e => absurd e.symm h) id⟩

theorem Tp.cnt_ks' (t : Tp) : t.cnt = Tp.cntL t.ks + 1 := by cases t; rw [Tp.cnt]; rfl
def Tp.cap (n : Int) : Int := if 1000 < n then 1001 else n
theorem Tp.cap_small {n : Int} (h : n ≤ 1000) : Tp.cap n = n := by unfold Tp.cap; rw [if_neg (by omega)]
theorem Tp.cap_big {n : Int} (h : 1000 < n) : Tp.cap n = 1001 := by unfold Tp.cap; rw [if_pos h]
theorem Tp.upto_cap (n : Int) : (Tp.upto n).1 = Tp.cap n := by unfold Tp.upto Tp.cap; split <;> split <;> first | rfl | omega
theorem Tp.cntL_drop {l : List Tp} {k : Nat} {x : Tp} (hx : l[k]? = some x) : Tp.cntL (l.drop k) = x.cnt + Tp.cntL (l.drop (k + 1)) := by
  obtain ⟨h1, e1⟩ := List.getElem?_eq_some_iff.1 hx
  rw [List.drop_eq_getElem_cons h1, e1, Tp.cntL]
end Go.Proofs.Ytigliglmejkakab
