/- Lists of ints in memory; Index, Contains; which kinds stand in a type. -/
import Derived.BigQuiet
import Derived.Test.YtgnmgooljcgfiaaDoorTpR
namespace Go.Proofs.YtgnmgooljcgfiaaDoor
open Go.RowKit
set_option linter.unusedVariables false
set_option linter.unusedSimpArgs false

/-- A slice of ints, in a block of K. -/
def Ls (w : World) (K : Nat → Prop) (v : Value) (l : List Int) : Prop :=
  (∃ b o c, v = .slice (some ⟨b, o, none⟩) l.length c ∧ K b ∧ l.length ≤ c ∧ l.length ≤ maxLen ∧ ∀ (j : Nat) x, l[j]? = some x → w.cell? ⟨b, o + j, none⟩ = some (.int .i64 x)) ∨ (l = [] ∧ ∃ p c, v = .slice p 0 c)
theorem Ls.move {w w' : World} {K K' : Nat → Prop} {v : Value} {l : List Int} (h : Ls w K v l) (hk : Keeps K w w') (hK : ∀ b, K b → K' b) : Ls w' K' v l := by
  rcases h with ⟨b, o, c, hv, hb, hc, hm, hl⟩ | h
  · exact .inl ⟨b, o, c, hv, hK b hb, hc, hm, fun j x hx => hk _ _ _ hb (hl j x hx)⟩
  · exact .inr h
theorem Ls.below {w w' : World} {K : Nat → Prop} {v : Value} {l : List Int} (h : Ls w K v l) (hb : Below w.heap.size w w') : Ls w' K v l := h.move (Keeps.of_below hb) fun _ h => h
theorem Ls.any {w : World} {K : Nat → Prop} {v : Value} {l : List Int} (h : Ls w K v l) : Ls w Any v l := h.move (Keeps.refl _ _) fun _ _ => trivial
theorem Ls.form {w : World} {K : Nat → Prop} {v : Value} {l : List Int} (h : Ls w K v l) : ∃ a c, v = .slice a l.length c ∧ l.length ≤ maxLen := by
  rcases h with ⟨b, o, c, rfl, -, -, hm, -⟩ | ⟨rfl, p, c, rfl⟩
  · exact ⟨_, _, rfl, hm⟩
  · exact ⟨_, _, rfl, Nat.zero_le _⟩
theorem Ls.oldK {w : World} {own : Nat → Prop} {v : Value} {l : List Int} (h : Ls w (fun b => ¬ own b) v l) : Ls w (Free own w) v l := by
  rcases h with ⟨b, o, c, hv, hb, hc, hm, hl⟩ | h
  · cases l with
    | nil => exact .inr ⟨rfl, _, _, hv⟩
    | cons x r => exact .inl ⟨b, o, c, hv, ⟨World.block_lt_of_cell? w _ (hl 0 x rfl), hb⟩, hc, hm, hl⟩
  · exact .inr h
theorem Ls.old {w : World} {K : Nat → Prop} {v : Value} {l : List Int} (h : Ls w K v l) : Ls w (fun b => b < w.heap.size) v l := by
  rcases h with ⟨b, o, c, hv, hb, hc, hm, hl⟩ | h
  · cases l with
    | nil => exact .inr ⟨rfl, _, _, hv⟩
    | cons x r => exact .inl ⟨b, o, c, hv, World.block_lt_of_cell? w _ (hl 0 x rfl), hc, hm, hl⟩
  · exact .inr h
theorem Tp.idx_at {n : Int} {l : List Int} {k : Nat} {x : Int} (hx : l[k]? = some x) : Tp.idx n (l.drop k) k = if x = n then (k : Int) else Tp.idx n (l.drop (k + 1)) (k + 1) := by
  obtain ⟨h1, e1⟩ := List.getElem?_eq_some_iff.1 hx
  rw [List.drop_eq_getElem_cons h1, e1, Tp.idx]

set_option maxHeartbeats 1000000 in
set_option maxRecDepth 100000 in
theorem idxB_any (w : World) (v : Value) (l : List Int) (n : Int) (h : Ls w Any v l) : Calls Tryd.prog 50 #[v, .int .i64 n] w fun e w' => e = .returned (.int .i64 (Tp.idx n l 0)) ∧ w' = w := by
  obtain ⟨a, c, rfl, hm⟩ := h.form
  unfold maxLen at hm
  go_enter Tryd.func50, Tryd.ntmps50
  go_wp2
  go_loopw [8] (fun v wr => ∃ k : Nat, v = .int .i64 k ∧ k ≤ l.length ∧ Hid (Tp.idx n l 0 = Tp.idx n (l.drop k) k) ∧ wr = w) (fun v _ => l.length - (intOf v).toNat)
  case atStart => exact ⟨0, rfl, Nat.zero_le _, rfl, rfl⟩
  case round =>
    obtain ⟨k, rfl, hk, hH, rfl⟩ := hrel
    by_cases hlt : k < l.length
    · obtain ⟨b, o, c', hv, -, -, -, hl⟩ := h.resolve_right (fun h => by rw [h.1] at hlt; exact absurd hlt (Nat.not_lt_zero _))
      injection hv with e1 e2 e3
      subst e1
      obtain ⟨x, hx⟩ : ∃ x, l[k]? = some x := ⟨_, List.getElem?_eq_getElem hlt⟩
      have hc := hl k x hx
      have HX := hH.out
      rw [Tp.idx_at hx] at HX
      clear hl hx hH h e2 e3
      by_cases he : x = n
      · rw [if_pos he] at HX
        have HY : Hid (Tp.idx n l 0 = (k : Int)) := HX
        have he2 : (n == x) = true := by rw [beq_iff_eq]; exact he.symm
        clear HX he
        go_wp2
        go_ret
        exact ⟨ret_int HY.out.symm, rfl⟩
      · rw [if_neg he] at HX
        have HY : Hid (Tp.idx n l 0 = Tp.idx n (l.drop (k + 1)) (k + 1)) := HX
        have he2 : (n == x) = false := by rw [beq_eq_false_iff_ne]; exact fun e => he e.symm
        clear HX he
        go_wp2
        go_roundw
        case rel => exact ⟨k + 1, by go_num, by omega, HY, by first | trivial | rfl⟩
        case measure => simp [intOf]; omega
    · have HX : Hid (Tp.idx n l 0 = -1) := by
        show _ = _
        rw [hH.out, List.drop_eq_nil_of_le (by omega)]; rfl
      clear hH h
      go_wp2
      go_ret
      exact ⟨ret_int HX.out.symm, rfl⟩

set_option maxHeartbeats 1000000 in
set_option maxRecDepth 100000 in
theorem idxI_any (w : World) (v : Value) (l : List Int) (n : Int) (h : Ls w Any v l) : Calls Tryd.prog 64 #[v, .int .i64 n] w fun e w' => e = .returned (.int .i64 (Tp.idx n l 0)) ∧ w' = w := by
  obtain ⟨a, c, rfl, hm⟩ := h.form
  unfold maxLen at hm
  go_enter Tryd.func64, Tryd.ntmps64
  go_wp2
  go_loopw [8] (fun v wr => ∃ k : Nat, v = .int .i64 k ∧ k ≤ l.length ∧ Hid (Tp.idx n l 0 = Tp.idx n (l.drop k) k) ∧ wr = w) (fun v _ => l.length - (intOf v).toNat)
  case atStart => exact ⟨0, rfl, Nat.zero_le _, rfl, rfl⟩
  case round =>
    obtain ⟨k, rfl, hk, hH, rfl⟩ := hrel
    by_cases hlt : k < l.length
    · obtain ⟨b, o, c', hv, -, -, -, hl⟩ := h.resolve_right (fun h => by rw [h.1] at hlt; exact absurd hlt (Nat.not_lt_zero _))
      injection hv with e1 e2 e3
      subst e1
      obtain ⟨x, hx⟩ : ∃ x, l[k]? = some x := ⟨_, List.getElem?_eq_getElem hlt⟩
      have hc := hl k x hx
      have HX := hH.out
      rw [Tp.idx_at hx] at HX
      clear hl hx hH h e2 e3
      by_cases he : x = n
      · rw [if_pos he] at HX
        have HY : Hid (Tp.idx n l 0 = (k : Int)) := HX
        have he2 : (n == x) = true := by rw [beq_iff_eq]; exact he.symm
        clear HX he
        go_wp2
        go_ret
        exact ⟨ret_int HY.out.symm, rfl⟩
      · rw [if_neg he] at HX
        have HY : Hid (Tp.idx n l 0 = Tp.idx n (l.drop (k + 1)) (k + 1)) := HX
        have he2 : (n == x) = false := by rw [beq_eq_false_iff_ne]; exact fun e => he e.symm
        clear HX he
        go_wp2
        go_roundw
        case rel => exact ⟨k + 1, by go_num, by omega, HY, by first | trivial | rfl⟩
        case measure => simp [intOf]; omega
    · have HX : Hid (Tp.idx n l 0 = -1) := by
        show _ = _
        rw [hH.out, List.drop_eq_nil_of_le (by omega)]; rfl
      clear hH h
      go_wp2
      go_ret
      exact ⟨ret_int HX.out.symm, rfl⟩

theorem Tp.idx_neg (n : Int) : ∀ (l : List Int) (i : Nat), (0 ≤ Tp.idx n l i) ↔ n ∈ l
  | [], i => by simp [Tp.idx]
  | x :: r, i => by
    rw [Tp.idx]
    by_cases h : x = n
    · rw [if_pos h]; simp [h]
    · rw [if_neg h, Tp.idx_neg n r (i + 1), List.mem_cons]
      exact ⟨.inr, fun h2 => h2.elim (fun e => absurd e.symm h) id⟩
theorem containsB_any (w : World) (v : Value) (l : List Int) (n : Int) (h : Ls w Any v l) : Calls Tryd.prog 42 #[v, .int .i64 n] w fun e w' => e = .returned (.bool (decide (n ∈ l))) ∧ w' = w := by
  have hq : Hid (Calls Tryd.prog 50 #[v, .int .i64 n] w fun e w' => e = .returned (.int .i64 (Tp.idx n l 0)) ∧ w' = w) := idxB_any w v l n h
  have hd : decide (0 ≤ Tp.idx n l 0) = decide (n ∈ l) := decide_eq_decide.2 (Tp.idx_neg n l 0)
  have HD : Hid (decide (0 ≤ Tp.idx n l 0) = decide (n ∈ l)) := hd
  clear h hd
  generalize Tp.idx n l 0 = q at hq HD
  go_enter Tryd.func42, Tryd.ntmps42
  go_wp2_with (go_at_call 50; refine hq.out.mono ?_; rintro e w2 ⟨rfl, hw⟩; rw [hw]; clear hw w2)
  go_ret
  exact ⟨ret_bool HD.out, rfl⟩
set_option maxRecDepth 100000 in
theorem spares_any (w : World) (v : Value) (l : List Int) (k n : Int) (u : Value) (h : Ls w Any v l) : Calls Tryd.prog 28 #[v, .agg #[.int .i64 k, .int .i64 n, u]] w fun e w' => e = .returned (.tuple #[.bool true, .bool (!decide (k ∈ l))]) ∧ Below w.heap.size w w' := by
  have hq : Hid (∀ o, Calls Tryd.prog 42 #[v, .int .i64 k] (w.alloc o) fun e w' => e = .returned (.bool (decide (k ∈ l))) ∧ w' = w.alloc o) := fun o => containsB_any _ v l k (h.below (bl_alloc (Below.refl _ _) _))
  clear h
  go_enter Tryd.func28, Tryd.ntmps28
  go_wp2_with (go_at_call 42; refine (hq.out _).mono ?_; rintro e w2 ⟨rfl, hw⟩; rw [hw]; clear hw w2)
  go_ret2
  exact ⟨rfl, bl_alloc (Below.refl _ _) _⟩
def ISpare (v : Value) (l : List Int) (W : World) (s : Unit) (own : Nat → Prop) (w : World) : Prop := (∀ b, ¬ own b) ∧ Below W.heap.size W w ∧ Ls w Any v l
theorem ISpare.steady (v : Value) (l : List Int) (W : World) : Steady (ISpare v l W) := ⟨fun s own w w' h hb => ⟨h.1, bl_tr h.2.1 hb, h.2.2.below hb⟩, fun s own w b h ho => absurd ho (h.1 b)⟩
theorem spare_see (v : Value) (l : List Int) (W w0 : World) (o0 : Nat → Prop) (n : Nat) : SeeOf 28 #[v] (Tp.fSpare l) (ISpare v l W) o0 w0 n := by
  intro w own s vs t hI hE hT
  obtain ⟨a, c, rfl⟩ := hT.form
  refine (spares_any w v l t.k t.n _ hI.2.2).mono ?_
  rintro e w' ⟨rfl, hb⟩
  exact ⟨rfl, own, ⟨hI.1, bl_tr hI.2.1 hb, hI.2.2.below hb⟩, Ev.of_below hb⟩
theorem enters_spares : Enters 28 := enters_of Tryd.func28 (by kernel_rfl) rfl
theorem walk_spare (v : Value) (l : List Int) (w : World) (n : Nat) (vs : List Value) (t : Tp) (hT : TAt w Any n vs t) (h : Ls w Any v l) : Calls Tryd.prog 22 #[.agg vs.toArray, .func (.func 28) #[v] #[]] w fun e w' => e = .returned (.bool (Tp.spares l t)) ∧ Below w.heap.size w w' := by
  have hT1 : TAt w (Free (fun _ => False) w) n vs t := (TAt.old hT).move (Keeps.refl _ _) fun b h => ⟨h, fun h => h⟩
  refine (walk_any _ _ _ (ISpare v l w) (fun _ => False) w (ISpare.steady v l w) enters_spares (spare_see v l w w _) n w (fun _ => False) () vs t ⟨fun _ h => h, Below.refl _ _, h⟩ (Ev.refl _ _) hT1).mono ?_
  rintro e w' ⟨rfl, own', hI, -⟩
  exact ⟨by rw [Tp.walk_spare], hI.2.1⟩

set_option maxRecDepth 100000 in
theorem Closed_any (w : World) (n : Nat) (vs : List Value) (t : Tp) (hT : TAt w Any n vs t) : Calls Tryd.prog 17 #[.agg vs.toArray] w fun e w' => e = .returned (.bool (Tp.spares [7, 8] t)) ∧ Below w.heap.size w w' := by
  have hq : Hid (∀ o T, Calls Tryd.prog 22 #[.agg vs.toArray, .func (.func 28) #[.slice (some ⟨w.heap.size + 1, 0, none⟩) 2 2] #[]] ((w.alloc o).alloc (.cells #[.int .i64 7, .int .i64 8] T)) fun e w' => e = .returned (.bool (Tp.spares [7, 8] t)) ∧ Below w.heap.size w w') := by
    intro o T
    have hb : Below w.heap.size w ((w.alloc o).alloc (.cells #[.int .i64 7, .int .i64 8] T)) := bl_alloc (bl_alloc (Below.refl _ _) _) _
    refine (walk_spare _ [7, 8] _ n vs t (hT.below hb) (.inl ⟨w.heap.size + 1, 0, 2, rfl, trivial, by decide, by decide, ?_⟩)).mono ?_
    · intro j x hx
      have hh := heap_alloc_at (w.alloc o) (.cells #[.int .i64 7, .int .i64 8] T)
      rw [size_alloc] at hh
      match j, hx with
      | 0, hx => simp at hx; subst hx; rw [cell_at hh]; rfl
      | 1, hx => simp at hx; subst hx; rw [cell_at hh]; rfl
      | j + 2, hx => simp at hx
    · rintro e w' ⟨rfl, h2⟩
      exact ⟨rfl, bl_tr hb h2⟩
  obtain ⟨a, c, rfl⟩ := hT.form
  clear hT
  go_enter Tryd.func17, Tryd.ntmps17
  go_wp2_with (go_at_call 22; refine (hq.out _ _).mono ?_; rintro e w2 ⟨rfl, hb2⟩)
  go_ret
  exact ⟨rfl, hb2⟩
end Go.Proofs.YtgnmgooljcgfiaaDoor
