/- right of one node; Right. Lists of ints in memory; Index, Contains; which kinds stand in a type. New memory: Clone, renewed. -/
import Derived.BigQuiet
import Derived.Laws.AppendOwn
import Derived.Laws.AppendOwnNone
import Derived.Lib.SliceRun
import Derived.Deep.RegionHeld
import Derived.Test.YtigliglmejkakaaGreatRaa
namespace Go.Proofs.YtigliglmejkakaaGreat
open Go.RowKit
set_option linter.unusedVariables false
set_option linter.unusedSimpArgs false

set_option maxHeartbeats 2000000 in
set_option maxRecDepth 100000 in
theorem right_any (w : World) (k n : Int) (a : Option Addr) (l c : Nat) (hl : l ≤ maxLen) : Calls Tryz.prog 44 #[.agg #[.int .i64 k, .int .i64 n, .slice a l c]] w fun e w' => e = .returned (.tuple #[.bool (Tp.into k), .bool (Tp.own k n l)]) ∧ Below w.heap.size w w' := by
  unfold maxLen at hl
  by_cases h1 : k = 1
  · subst h1
    by_cases hn : n = 0
    · subst hn
      by_cases hz : l = 0
      · subst hz
        go_enter Tryz.func44, Tryz.ntmps44
        go_wp2
        go_quiet (fail)
        go_wp2
        go_ret2
        exact ⟨by simp [Tp.into, Tp.own] <;> omega, by first | exact bl_alloc (Below.refl _ _) _ | exact bl_tr (bl_alloc (Below.refl _ _) _) (bl_drewN _ _)⟩
      · have hz2 : ((l : Int) == 0) = false := by rw [beq_eq_false_iff_ne]; omega
        go_enter Tryz.func44, Tryz.ntmps44
        go_wp2
        go_quiet (fail)
        go_wp2
        go_ret2
        exact ⟨by simp [Tp.into, Tp.own, hz] <;> omega, by first | exact bl_alloc (Below.refl _ _) _ | exact bl_tr (bl_alloc (Below.refl _ _) _) (bl_drewN _ _)⟩
    · have hn2 : (n == 0) = false := by rw [beq_eq_false_iff_ne]; exact hn
      go_enter Tryz.func44, Tryz.ntmps44
      go_wp2
      go_quiet (fail)
      go_wp2
      go_ret2
      exact ⟨by simp [Tp.into, Tp.own, hn] <;> omega, by first | exact bl_alloc (Below.refl _ _) _ | exact bl_tr (bl_alloc (Below.refl _ _) _) (bl_drewN _ _)⟩
  by_cases h2 : k = 2
  · subst h2
    by_cases hn : n = 0
    · subst hn
      by_cases hz : l = 0
      · subst hz
        go_enter Tryz.func44, Tryz.ntmps44
        go_wp2
        go_quiet (fail)
        go_wp2
        go_ret2
        exact ⟨by simp [Tp.into, Tp.own] <;> omega, by first | exact bl_alloc (Below.refl _ _) _ | exact bl_tr (bl_alloc (Below.refl _ _) _) (bl_drewN _ _)⟩
      · have hz2 : ((l : Int) == 0) = false := by rw [beq_eq_false_iff_ne]; omega
        go_enter Tryz.func44, Tryz.ntmps44
        go_wp2
        go_quiet (fail)
        go_wp2
        go_ret2
        exact ⟨by simp [Tp.into, Tp.own, hz] <;> omega, by first | exact bl_alloc (Below.refl _ _) _ | exact bl_tr (bl_alloc (Below.refl _ _) _) (bl_drewN _ _)⟩
    · have hn2 : (n == 0) = false := by rw [beq_eq_false_iff_ne]; exact hn
      go_enter Tryz.func44, Tryz.ntmps44
      go_wp2
      go_quiet (fail)
      go_wp2
      go_ret2
      exact ⟨by simp [Tp.into, Tp.own, hn] <;> omega, by first | exact bl_alloc (Below.refl _ _) _ | exact bl_tr (bl_alloc (Below.refl _ _) _) (bl_drewN _ _)⟩
  by_cases h3 : k = 3
  · subst h3
    by_cases hn : n = 0
    · subst hn
      by_cases hz : l = 0
      · subst hz
        go_enter Tryz.func44, Tryz.ntmps44
        go_wp2
        go_quiet (fail)
        go_wp2
        go_ret2
        exact ⟨by simp [Tp.into, Tp.own] <;> omega, by first | exact bl_alloc (Below.refl _ _) _ | exact bl_tr (bl_alloc (Below.refl _ _) _) (bl_drewN _ _)⟩
      · have hz2 : ((l : Int) == 0) = false := by rw [beq_eq_false_iff_ne]; omega
        go_enter Tryz.func44, Tryz.ntmps44
        go_wp2
        go_quiet (fail)
        go_wp2
        go_ret2
        exact ⟨by simp [Tp.into, Tp.own, hz] <;> omega, by first | exact bl_alloc (Below.refl _ _) _ | exact bl_tr (bl_alloc (Below.refl _ _) _) (bl_drewN _ _)⟩
    · have hn2 : (n == 0) = false := by rw [beq_eq_false_iff_ne]; exact hn
      go_enter Tryz.func44, Tryz.ntmps44
      go_wp2
      go_quiet (fail)
      go_wp2
      go_ret2
      exact ⟨by simp [Tp.into, Tp.own, hn] <;> omega, by first | exact bl_alloc (Below.refl _ _) _ | exact bl_tr (bl_alloc (Below.refl _ _) _) (bl_drewN _ _)⟩
  by_cases h4 : k = 4
  · subst h4
    by_cases hn : n = 0
    · subst hn
      by_cases hz : l = 2
      · subst hz
        go_enter Tryz.func44, Tryz.ntmps44
        go_wp2
        go_quiet (fail)
        go_wp2
        go_ret2
        exact ⟨by simp [Tp.into, Tp.own] <;> omega, by first | exact bl_alloc (Below.refl _ _) _ | exact bl_tr (bl_alloc (Below.refl _ _) _) (bl_drewN _ _)⟩
      · have hz2 : ((l : Int) == 2) = false := by rw [beq_eq_false_iff_ne]; omega
        go_enter Tryz.func44, Tryz.ntmps44
        go_wp2
        go_quiet (fail)
        go_wp2
        go_ret2
        exact ⟨by simp [Tp.into, Tp.own, hz] <;> omega, by first | exact bl_alloc (Below.refl _ _) _ | exact bl_tr (bl_alloc (Below.refl _ _) _) (bl_drewN _ _)⟩
    · have hn2 : (n == 0) = false := by rw [beq_eq_false_iff_ne]; exact hn
      go_enter Tryz.func44, Tryz.ntmps44
      go_wp2
      go_quiet (fail)
      go_wp2
      go_ret2
      exact ⟨by simp [Tp.into, Tp.own, hn] <;> omega, by first | exact bl_alloc (Below.refl _ _) _ | exact bl_tr (bl_alloc (Below.refl _ _) _) (bl_drewN _ _)⟩
  by_cases h5 : k = 5
  · subst h5
    by_cases hn : n = 0
    · subst hn
      by_cases hz : l = 2
      · subst hz
        go_enter Tryz.func44, Tryz.ntmps44
        go_wp2
        go_quiet (fail)
        go_wp2
        go_ret2
        exact ⟨by simp [Tp.into, Tp.own] <;> omega, by first | exact bl_alloc (Below.refl _ _) _ | exact bl_tr (bl_alloc (Below.refl _ _) _) (bl_drewN _ _)⟩
      · have hz2 : ((l : Int) == 2) = false := by rw [beq_eq_false_iff_ne]; omega
        go_enter Tryz.func44, Tryz.ntmps44
        go_wp2
        go_quiet (fail)
        go_wp2
        go_ret2
        exact ⟨by simp [Tp.into, Tp.own, hz] <;> omega, by first | exact bl_alloc (Below.refl _ _) _ | exact bl_tr (bl_alloc (Below.refl _ _) _) (bl_drewN _ _)⟩
    · have hn2 : (n == 0) = false := by rw [beq_eq_false_iff_ne]; exact hn
      go_enter Tryz.func44, Tryz.ntmps44
      go_wp2
      go_quiet (fail)
      go_wp2
      go_ret2
      exact ⟨by simp [Tp.into, Tp.own, hn] <;> omega, by first | exact bl_alloc (Below.refl _ _) _ | exact bl_tr (bl_alloc (Below.refl _ _) _) (bl_drewN _ _)⟩
  by_cases h6 : k = 6
  · subst h6
    by_cases hn : 0 ≤ n
    · have hd : decide (0 ≤ n) = true := decide_eq_true hn
      by_cases hz : l = 0
      · subst hz
        go_enter Tryz.func44, Tryz.ntmps44
        go_wp2
        go_quiet (fail)
        go_wp2
        go_ret2
        exact ⟨by simp [Tp.into, Tp.own, hn] <;> omega, by first | exact bl_alloc (Below.refl _ _) _ | exact bl_tr (bl_alloc (Below.refl _ _) _) (bl_drewN _ _)⟩
      · have hz2 : ((l : Int) == 0) = false := by rw [beq_eq_false_iff_ne]; omega
        go_enter Tryz.func44, Tryz.ntmps44
        go_wp2
        go_quiet (fail)
        go_wp2
        go_ret2
        exact ⟨by simp [Tp.into, Tp.own, hz, hn] <;> omega, by first | exact bl_alloc (Below.refl _ _) _ | exact bl_tr (bl_alloc (Below.refl _ _) _) (bl_drewN _ _)⟩
    · have hd : decide (0 ≤ n) = false := decide_eq_false hn
      go_enter Tryz.func44, Tryz.ntmps44
      go_wp2
      go_quiet (fail)
      go_wp2
      go_ret2
      exact ⟨by simp [Tp.into, Tp.own, hn] <;> omega, by first | exact bl_alloc (Below.refl _ _) _ | exact bl_tr (bl_alloc (Below.refl _ _) _) (bl_drewN _ _)⟩
  by_cases h7 : k = 7
  · subst h7
    by_cases hn : 0 ≤ n
    · have hd : decide (0 ≤ n) = true := decide_eq_true hn
      by_cases hz : l = 0
      · subst hz
        go_enter Tryz.func44, Tryz.ntmps44
        go_wp2
        go_quiet (fail)
        go_wp2
        go_ret2
        exact ⟨by simp [Tp.into, Tp.own, hn] <;> omega, by first | exact bl_alloc (Below.refl _ _) _ | exact bl_tr (bl_alloc (Below.refl _ _) _) (bl_drewN _ _)⟩
      · have hz2 : ((l : Int) == 0) = false := by rw [beq_eq_false_iff_ne]; omega
        go_enter Tryz.func44, Tryz.ntmps44
        go_wp2
        go_quiet (fail)
        go_wp2
        go_ret2
        exact ⟨by simp [Tp.into, Tp.own, hz, hn] <;> omega, by first | exact bl_alloc (Below.refl _ _) _ | exact bl_tr (bl_alloc (Below.refl _ _) _) (bl_drewN _ _)⟩
    · have hd : decide (0 ≤ n) = false := decide_eq_false hn
      go_enter Tryz.func44, Tryz.ntmps44
      go_wp2
      go_quiet (fail)
      go_wp2
      go_ret2
      exact ⟨by simp [Tp.into, Tp.own, hn] <;> omega, by first | exact bl_alloc (Below.refl _ _) _ | exact bl_tr (bl_alloc (Below.refl _ _) _) (bl_drewN _ _)⟩
  by_cases h8 : k = 8
  · subst h8
    by_cases hn : 0 ≤ n
    · have hd : decide (0 ≤ n) = true := decide_eq_true hn
      by_cases hz : l = 0
      · subst hz
        go_enter Tryz.func44, Tryz.ntmps44
        go_wp2
        go_quiet (fail)
        go_wp2
        go_ret2
        exact ⟨by simp [Tp.into, Tp.own, hn] <;> omega, by first | exact bl_alloc (Below.refl _ _) _ | exact bl_tr (bl_alloc (Below.refl _ _) _) (bl_drewN _ _)⟩
      · have hz2 : ((l : Int) == 0) = false := by rw [beq_eq_false_iff_ne]; omega
        go_enter Tryz.func44, Tryz.ntmps44
        go_wp2
        go_quiet (fail)
        go_wp2
        go_ret2
        exact ⟨by simp [Tp.into, Tp.own, hz, hn] <;> omega, by first | exact bl_alloc (Below.refl _ _) _ | exact bl_tr (bl_alloc (Below.refl _ _) _) (bl_drewN _ _)⟩
    · have hd : decide (0 ≤ n) = false := decide_eq_false hn
      go_enter Tryz.func44, Tryz.ntmps44
      go_wp2
      go_quiet (fail)
      go_wp2
      go_ret2
      exact ⟨by simp [Tp.into, Tp.own, hn] <;> omega, by first | exact bl_alloc (Below.refl _ _) _ | exact bl_tr (bl_alloc (Below.refl _ _) _) (bl_drewN _ _)⟩
  have g1 : (k == 1) = false := by rw [beq_eq_false_iff_ne]; exact h1
  have g2 : (k == 2) = false := by rw [beq_eq_false_iff_ne]; exact h2
  have g3 : (k == 3) = false := by rw [beq_eq_false_iff_ne]; exact h3
  have g4 : (k == 4) = false := by rw [beq_eq_false_iff_ne]; exact h4
  have g5 : (k == 5) = false := by rw [beq_eq_false_iff_ne]; exact h5
  have g6 : (k == 6) = false := by rw [beq_eq_false_iff_ne]; exact h6
  have g7 : (k == 7) = false := by rw [beq_eq_false_iff_ne]; exact h7
  have g8 : (k == 8) = false := by rw [beq_eq_false_iff_ne]; exact h8
  have hi : Hid (Tp.into k = false) := by show _ = _; unfold Tp.into; simp; omega
  have ho : Hid (Tp.own k n l = false) := by show _ = _; unfold Tp.own; simp [h1, h2, h3, h4, h5, h6, h7, h8]
  clear h1 h2 h3 h4 h5 h6 h7 h8
  go_enter Tryz.func44, Tryz.ntmps44
  go_wp2
  go_ret2
  exact ⟨by rw [hi.out, ho.out]; rfl, bl_alloc (Below.refl _ _) _⟩

def IRight (W : World) (s : Unit) (own : Nat → Prop) (w : World) : Prop := (∀ b, ¬ own b) ∧ Below W.heap.size W w
theorem IRight.steady (W : World) : Steady (IRight W) := ⟨fun s own w w' h hb => ⟨h.1, bl_tr h.2 hb⟩, fun s own w b h ho => absurd ho (h.1 b)⟩
theorem right_see (W w0 : World) (o0 : Nat → Prop) (n : Nat) : SeeOf 44 #[] Tp.fRight (IRight W) o0 w0 n := by
  intro w own s vs t hI hE hT
  cases n with
  | zero => exact hT.elim
  | succ n =>
    obtain ⟨v, rfl, h2, h3, h4⟩ := hT.open_
    obtain ⟨a, c, rfl, hm⟩ := h4.form
    refine (right_any w t.k t.n a t.ks.length c hm).mono ?_
    rintro e w' ⟨rfl, hb⟩
    exact ⟨rfl, own, ⟨hI.1, bl_tr hI.2 hb⟩, Ev.of_below hb⟩
theorem enters_right : Enters 44 := enters_of Tryz.func44 (by kernel_rfl) rfl
set_option maxRecDepth 100000 in
theorem Right_any (w : World) (n : Nat) (vs : List Value) (t : Tp) (hT : TAt w Any n vs t) : Calls Tryz.prog 19 #[.agg vs.toArray] w fun e w' => e = .returned (.bool t.right) ∧ Below w.heap.size w w' := by
  have hq : Hid (∀ w1, Below w.heap.size w w1 → Calls Tryz.prog 30 #[.agg vs.toArray, .func (.func 44) #[] #[]] w1 fun e w' => e = .returned (.bool t.right) ∧ Below w.heap.size w w') := by
    intro w1 hb
    have hT1 : TAt w1 (Free (fun _ => False) w1) n vs t := (TAt.old (hT.below hb)).move (Keeps.refl _ _) fun b h => ⟨h, fun h => h⟩
    refine (walk_any _ _ _ (IRight w) (fun _ => False) w1 (IRight.steady w) enters_right (right_see w w1 _) n w1 (fun _ => False) () vs t ⟨fun _ h => h, hb⟩ (Ev.refl _ _) hT1).mono ?_
    rintro e w' ⟨rfl, own', hI, -⟩
    exact ⟨by rw [Tp.walk_right], hI.2⟩
  obtain ⟨a, c, rfl⟩ := hT.form
  clear hT
  go_enter Tryz.func19, Tryz.ntmps19
  go_wp2_with (go_at_call 30; refine (hq.out _ (bl_alloc (Below.refl _ _) _)).mono ?_; rintro e w2 ⟨rfl, hb2⟩)
  go_ret
  exact ⟨rfl, hb2⟩
end Go.Proofs.YtigliglmejkakaaGreat

namespace Go.Proofs.YtigliglmejkakaaGreat
open Go.RowKit
set_option linter.unusedVariables false
set_option linter.unusedSimpArgs false

/-- A slice of ints, in a block of K. -/
def Ls (w : World) (K : Nat → Prop) (v : Value) (l : List Int) : Prop :=
  (∃ b o c, v = .slice (some ⟨b, o, none⟩) l.length c ∧ K b ∧ l.length ≤ c ∧ l.length ≤ maxLen ∧ ∀ (j : Nat) x, l[j]? = some x → w.cell? ⟨b, o + j, none⟩ = some (.int .i64 x)) ∨ (l = [] ∧ ∃ p c, v = .slice p 0 c)
theorem Ls.move {w w' : World} {K K' : Nat → Prop} {v : Value} {l : List Int} (h : Ls w K v l) (hk : Keeps K w w') (hK : ∀ b, K b → K' b) : Ls w' K' v l := by
  rcases h with ⟨b, o, c, hv, hb, hc, hm, hl⟩ | h
  · exact .inl ⟨b, o, c, hv, hK b hb, hc, hm, fun j x hx => hk _ _ _ hb (hl j x hx)⟩
  · exact .inr h
theorem Ls.below {w w' : World} {K : Nat → Prop} {v : Value} {l : List Int} (h : Ls w K v l) (hb : Below w.heap.size w w') : Ls w' K v l := h.move (Keeps.of_below hb) fun _ h => h
theorem Ls.any {w : World} {K : Nat → Prop} {v : Value} {l : List Int} (h : Ls w K v l) : Ls w Any v l := h.move (Keeps.refl _ _) fun _ _ => trivial
theorem Ls.form {w : World} {K : Nat → Prop} {v : Value} {l : List Int} (h : Ls w K v l) : ∃ a c, v = .slice a l.length c ∧ l.length ≤ maxLen := by
  rcases h with ⟨b, o, c, rfl, -, -, hm, -⟩ | ⟨rfl, p, c, rfl⟩
  · exact ⟨_, _, rfl, hm⟩
  · exact ⟨_, _, rfl, Nat.zero_le _⟩
theorem Ls.oldK {w : World} {own : Nat → Prop} {v : Value} {l : List Int} (h : Ls w (fun b => ¬ own b) v l) : Ls w (Free own w) v l := by
  rcases h with ⟨b, o, c, hv, hb, hc, hm, hl⟩ | h
  · cases l with
    | nil => exact .inr ⟨rfl, _, _, hv⟩
    | cons x r => exact .inl ⟨b, o, c, hv, ⟨World.block_lt_of_cell? w _ (hl 0 x rfl), hb⟩, hc, hm, hl⟩
  · exact .inr h
theorem Ls.old {w : World} {K : Nat → Prop} {v : Value} {l : List Int} (h : Ls w K v l) : Ls w (fun b => b < w.heap.size) v l := by
  rcases h with ⟨b, o, c, hv, hb, hc, hm, hl⟩ | h
  · cases l with
    | nil => exact .inr ⟨rfl, _, _, hv⟩
    | cons x r => exact .inl ⟨b, o, c, hv, World.block_lt_of_cell? w _ (hl 0 x rfl), hc, hm, hl⟩
  · exact .inr h
theorem Tp.idx_at {n : Int} {l : List Int} {k : Nat} {x : Int} (hx : l[k]? = some x) : Tp.idx n (l.drop k) k = if x = n then (k : Int) else Tp.idx n (l.drop (k + 1)) (k + 1) := by
  obtain ⟨h1, e1⟩ := List.getElem?_eq_some_iff.1 hx
  rw [List.drop_eq_getElem_cons h1, e1, Tp.idx]

set_option maxHeartbeats 1000000 in
set_option maxRecDepth 100000 in
theorem idxB_any (w : World) (v : Value) (l : List Int) (n : Int) (h : Ls w Any v l) : Calls Tryz.prog 111 #[v, .int .i64 n] w fun e w' => e = .returned (.int .i64 (Tp.idx n l 0)) ∧ w' = w := by
  obtain ⟨a, c, rfl, hm⟩ := h.form
  unfold maxLen at hm
  go_enter Tryz.func111, Tryz.ntmps111
  go_wp2
  go_loopw [8] (fun v wr => ∃ k : Nat, v = .int .i64 k ∧ k ≤ l.length ∧ Hid (Tp.idx n l 0 = Tp.idx n (l.drop k) k) ∧ wr = w) (fun v _ => l.length - (intOf v).toNat)
  case atStart => exact ⟨0, rfl, Nat.zero_le _, rfl, rfl⟩
  case round =>
    obtain ⟨k, rfl, hk, hH, rfl⟩ := hrel
    by_cases hlt : k < l.length
    · obtain ⟨b, o, c', hv, -, -, -, hl⟩ := h.resolve_right (fun h => by rw [h.1] at hlt; exact absurd hlt (Nat.not_lt_zero _))
      injection hv with e1 e2 e3
      subst e1
      obtain ⟨x, hx⟩ : ∃ x, l[k]? = some x := ⟨_, List.getElem?_eq_getElem hlt⟩
      have hc := hl k x hx
      have HX := hH.out
      rw [Tp.idx_at hx] at HX
      clear hl hx hH h e2 e3
      by_cases he : x = n
      · rw [if_pos he] at HX
        have HY : Hid (Tp.idx n l 0 = (k : Int)) := HX
        have he2 : (n == x) = true := by rw [beq_iff_eq]; exact he.symm
        clear HX he
        go_wp2
        go_ret
        exact ⟨ret_int HY.out.symm, rfl⟩
      · rw [if_neg he] at HX
        have HY : Hid (Tp.idx n l 0 = Tp.idx n (l.drop (k + 1)) (k + 1)) := HX
        have he2 : (n == x) = false := by rw [beq_eq_false_iff_ne]; exact fun e => he e.symm
        clear HX he
        go_wp2
        go_roundw
        case rel => exact ⟨k + 1, by go_num, by omega, HY, by first | trivial | rfl⟩
        case measure => simp [intOf]; omega
    · have HX : Hid (Tp.idx n l 0 = -1) := by
        show _ = _
        rw [hH.out, List.drop_eq_nil_of_le (by omega)]; rfl
      clear hH h
      go_wp2
      go_ret
      exact ⟨ret_int HX.out.symm, rfl⟩

set_option maxHeartbeats 1000000 in
set_option maxRecDepth 100000 in
theorem idxI_any (w : World) (v : Value) (l : List Int) (n : Int) (h : Ls w Any v l) : Calls Tryz.prog 96 #[v, .int .i64 n] w fun e w' => e = .returned (.int .i64 (Tp.idx n l 0)) ∧ w' = w := by
  obtain ⟨a, c, rfl, hm⟩ := h.form
  unfold maxLen at hm
  go_enter Tryz.func96, Tryz.ntmps96
  go_wp2
  go_loopw [8] (fun v wr => ∃ k : Nat, v = .int .i64 k ∧ k ≤ l.length ∧ Hid (Tp.idx n l 0 = Tp.idx n (l.drop k) k) ∧ wr = w) (fun v _ => l.length - (intOf v).toNat)
  case atStart => exact ⟨0, rfl, Nat.zero_le _, rfl, rfl⟩
  case round =>
    obtain ⟨k, rfl, hk, hH, rfl⟩ := hrel
    by_cases hlt : k < l.length
    · obtain ⟨b, o, c', hv, -, -, -, hl⟩ := h.resolve_right (fun h => by rw [h.1] at hlt; exact absurd hlt (Nat.not_lt_zero _))
      injection hv with e1 e2 e3
      subst e1
      obtain ⟨x, hx⟩ : ∃ x, l[k]? = some x := ⟨_, List.getElem?_eq_getElem hlt⟩
      have hc := hl k x hx
      have HX := hH.out
      rw [Tp.idx_at hx] at HX
      clear hl hx hH h e2 e3
      by_cases he : x = n
      · rw [if_pos he] at HX
        have HY : Hid (Tp.idx n l 0 = (k : Int)) := HX
        have he2 : (n == x) = true := by rw [beq_iff_eq]; exact he.symm
        clear HX he
        go_wp2
        go_ret
        exact ⟨ret_int HY.out.symm, rfl⟩
      · rw [if_neg he] at HX
        have HY : Hid (Tp.idx n l 0 = Tp.idx n (l.drop (k + 1)) (k + 1)) := HX
        have he2 : (n == x) = false := by rw [beq_eq_false_iff_ne]; exact fun e => he e.symm
        clear HX he
        go_wp2
        go_roundw
        case rel => exact ⟨k + 1, by go_num, by omega, HY, by first | trivial | rfl⟩
        case measure => simp [intOf]; omega
    · have HX : Hid (Tp.idx n l 0 = -1) := by
        show _ = _
        rw [hH.out, List.drop_eq_nil_of_le (by omega)]; rfl
      clear hH h
      go_wp2
      go_ret
      exact ⟨ret_int HX.out.symm, rfl⟩

theorem Tp.idx_neg (n : Int) : ∀ (l : List Int) (i : Nat), (0 ≤ Tp.idx n l i) ↔ n ∈ l
  | [], i => by simp [Tp.idx]
  | x :: r, i => by
    rw [Tp.idx]
    by_cases h : x = n
    · rw [if_pos h]; simp [h]
    · rw [if_neg h, Tp.idx_neg n r (i + 1), List.mem_cons]
      exact ⟨.inr, fun h2 => h2.elim (fun e => absurd e.symm h) id⟩
theorem containsB_any (w : World) (v : Value) (l : List Int) (n : Int) (h : Ls w Any v l) : Calls Tryz.prog 88 #[v, .int .i64 n] w fun e w' => e = .returned (.bool (decide (n ∈ l))) ∧ w' = w := by
  have hq : Hid (Calls Tryz.prog 111 #[v, .int .i64 n] w fun e w' => e = .returned (.int .i64 (Tp.idx n l 0)) ∧ w' = w) := idxB_any w v l n h
  have hd : decide (0 ≤ Tp.idx n l 0) = decide (n ∈ l) := decide_eq_decide.2 (Tp.idx_neg n l 0)
  have HD : Hid (decide (0 ≤ Tp.idx n l 0) = decide (n ∈ l)) := hd
  clear h hd
  generalize Tp.idx n l 0 = q at hq HD
  go_enter Tryz.func88, Tryz.ntmps88
  go_wp2_with (go_at_call 111; refine hq.out.mono ?_; rintro e w2 ⟨rfl, hw⟩; rw [hw]; clear hw w2)
  go_ret
  exact ⟨ret_bool HD.out, rfl⟩
set_option maxRecDepth 100000 in
theorem spares_any (w : World) (v : Value) (l : List Int) (k n : Int) (u : Value) (h : Ls w Any v l) : Calls Tryz.prog 45 #[v, .agg #[.int .i64 k, .int .i64 n, u]] w fun e w' => e = .returned (.tuple #[.bool true, .bool (!decide (k ∈ l))]) ∧ Below w.heap.size w w' := by
  have hq : Hid (∀ o, Calls Tryz.prog 88 #[v, .int .i64 k] (w.alloc o) fun e w' => e = .returned (.bool (decide (k ∈ l))) ∧ w' = w.alloc o) := fun o => containsB_any _ v l k (h.below (bl_alloc (Below.refl _ _) _))
  clear h
  go_enter Tryz.func45, Tryz.ntmps45
  go_wp2_with (go_at_call 88; refine (hq.out _).mono ?_; rintro e w2 ⟨rfl, hw⟩; rw [hw]; clear hw w2)
  go_ret2
  exact ⟨rfl, bl_alloc (Below.refl _ _) _⟩
def ISpare (v : Value) (l : List Int) (W : World) (s : Unit) (own : Nat → Prop) (w : World) : Prop := (∀ b, ¬ own b) ∧ Below W.heap.size W w ∧ Ls w Any v l
theorem ISpare.steady (v : Value) (l : List Int) (W : World) : Steady (ISpare v l W) := ⟨fun s own w w' h hb => ⟨h.1, bl_tr h.2.1 hb, h.2.2.below hb⟩, fun s own w b h ho => absurd ho (h.1 b)⟩
theorem spare_see (v : Value) (l : List Int) (W w0 : World) (o0 : Nat → Prop) (n : Nat) : SeeOf 45 #[v] (Tp.fSpare l) (ISpare v l W) o0 w0 n := by
  intro w own s vs t hI hE hT
  obtain ⟨a, c, rfl⟩ := hT.form
  refine (spares_any w v l t.k t.n _ hI.2.2).mono ?_
  rintro e w' ⟨rfl, hb⟩
  exact ⟨rfl, own, ⟨hI.1, bl_tr hI.2.1 hb, hI.2.2.below hb⟩, Ev.of_below hb⟩
theorem enters_spares : Enters 45 := enters_of Tryz.func45 (by kernel_rfl) rfl
theorem walk_spare (v : Value) (l : List Int) (w : World) (n : Nat) (vs : List Value) (t : Tp) (hT : TAt w Any n vs t) (h : Ls w Any v l) : Calls Tryz.prog 30 #[.agg vs.toArray, .func (.func 45) #[v] #[]] w fun e w' => e = .returned (.bool (Tp.spares l t)) ∧ Below w.heap.size w w' := by
  have hT1 : TAt w (Free (fun _ => False) w) n vs t := (TAt.old hT).move (Keeps.refl _ _) fun b h => ⟨h, fun h => h⟩
  refine (walk_any _ _ _ (ISpare v l w) (fun _ => False) w (ISpare.steady v l w) enters_spares (spare_see v l w w _) n w (fun _ => False) () vs t ⟨fun _ h => h, Below.refl _ _, h⟩ (Ev.refl _ _) hT1).mono ?_
  rintro e w' ⟨rfl, own', hI, -⟩
  exact ⟨by rw [Tp.walk_spare], hI.2.1⟩

set_option maxRecDepth 100000 in
theorem Closed_any (w : World) (n : Nat) (vs : List Value) (t : Tp) (hT : TAt w Any n vs t) : Calls Tryz.prog 20 #[.agg vs.toArray] w fun e w' => e = .returned (.bool (Tp.spares [7, 8] t)) ∧ Below w.heap.size w w' := by
  have hq : Hid (∀ o T, Calls Tryz.prog 30 #[.agg vs.toArray, .func (.func 45) #[.slice (some ⟨w.heap.size + 1, 0, none⟩) 2 2] #[]] ((w.alloc o).alloc (.cells #[.int .i64 7, .int .i64 8] T)) fun e w' => e = .returned (.bool (Tp.spares [7, 8] t)) ∧ Below w.heap.size w w') := by
    intro o T
    have hb : Below w.heap.size w ((w.alloc o).alloc (.cells #[.int .i64 7, .int .i64 8] T)) := bl_alloc (bl_alloc (Below.refl _ _) _) _
    refine (walk_spare _ [7, 8] _ n vs t (hT.below hb) (.inl ⟨w.heap.size + 1, 0, 2, rfl, trivial, by decide, by decide, ?_⟩)).mono ?_
    · intro j x hx
      have hh := heap_alloc_at (w.alloc o) (.cells #[.int .i64 7, .int .i64 8] T)
      rw [size_alloc] at hh
      match j, hx with
      | 0, hx => simp at hx; subst hx; rw [cell_at hh]; rfl
      | 1, hx => simp at hx; subst hx; rw [cell_at hh]; rfl
      | j + 2, hx => simp at hx
    · rintro e w' ⟨rfl, h2⟩
      exact ⟨rfl, bl_tr hb h2⟩
  obtain ⟨a, c, rfl⟩ := hT.form
  clear hT
  go_enter Tryz.func20, Tryz.ntmps20
  go_wp2_with (go_at_call 30; refine (hq.out _ _).mono ?_; rintro e w2 ⟨rfl, hb2⟩)
  go_ret
  exact ⟨rfl, hb2⟩
end Go.Proofs.YtigliglmejkakaaGreat

namespace Go.Proofs.YtigliglmejkakaaGreat
open Go.RowKit
set_option linter.unusedVariables false
set_option linter.unusedSimpArgs false

theorem info_parts0 {P : Program} {t : TypeId} {z : Value} {s b : Nat} (h : (P.info? t).map (fun i => (i.zero, i.size, i.bytes)) = some (some z, s, b)) : ∃ i, P.info? t = some i ∧ i.zero = some z ∧ i.size = s ∧ i.bytes = b := by
  cases hi : P.info? t with
  | none => rw [hi] at h; cases h
  | some i =>
    rw [hi] at h
    simp only [Option.map_some, Option.some.injEq, Prod.mk.injEq] at h
    exact ⟨i, rfl, h.1, h.2.1, h.2.2⟩
theorem row_new (w : World) (t : TypeId) (k : Nat) : (w.alloc (.cells #[] t)).ownsRow w.heap.size t k (.slice (some ⟨w.heap.size, 0, none⟩) 0 0) 0 [] := by
  refine ⟨(Nat.zero_mul k).symm, .inr ⟨w.heap.size, 0, #[], rfl, Nat.le_refl _, ?_, Nat.le_refl _, Nat.zero_le _, (Nat.zero_mul k).symm, by simp⟩⟩
  show (w.heap.push _)[w.heap.size]? = _
  simp
/-- What Clone gives of n things of k cells each, whose cells hold these values. -/
def Cloned (w : World) (e : TypeId) (k n : Nat) (vals : List Value) (x : Ending) (w' : World) : Prop := ∃ v', x = .returned v' ∧ w'.ownsRow w.heap.size e k v' n vals ∧ Below w.heap.size w w'

theorem info_clT : (Tryz.prog.info? 24).map (fun i => (i.zero, i.size, i.bytes)) = some (some (.agg #[.int .i64 0, .int .i64 0, .slice none 0 0]), 3, 40) := by kernel_rfl
set_option maxHeartbeats 2000000 in
set_option maxRecDepth 100000 in
theorem clone_rawT (w : World) (a : Addr) (n c : Nat) (vals : List Value) (hl : vals.length = n * 3) (hc : ∀ (j : Nat) u, vals[j]? = some u → w.cell? (a.add j) = some u) (h1 : ∀ u ∈ vals, u.oneCell' = true) (hn : n ≤ 1048576) :
    Calls Tryz.prog 97 #[.slice (some a) n c] w (Cloned w 24 3 n vals) := by
  obtain ⟨i0, hi, hz0, hz1, hz2⟩ := info_parts0 info_clT
  have row0 := row_new w 24 3
  have q22 : ∀ (w : World) (a : Option Addr) (n c n' c' : Nat), (binOp .eql 22 (.slice a n c) (.slice none n' c')).run Tryz.prog w = .ok (.bool a.isNone) w := fun w a n c n' c' => Lib.run_eql_slice_nil w _ _ a n c n' c' Tryz.underlying22
  have A : Hid (∀ (j : Nat) u, vals[j]? = some u → w.cell? (a.add j) = some u) := hc
  clear hc
  go_enter Tryz.func97, Tryz.ntmps97
  go_wp2_with (at_builtin; refine wpList_append_own _ rfl _ _ 22 rfl w.heap.size 24 i0 (.agg #[.int .i64 0, .int .i64 0, .slice none 0 0]) 3 40 Tryz.underlying22 hi hz0 hz1 hz2 rfl (by decide) _ _ _ rfl row0 a n c vals rfl hl ?qc2 h1 ?qc4 ?qc5 ?qc6 ?_)
  case qc2 =>
    intro j u hj
    exact Lib.cell?_alloc_some _ (A.out j u hj)
  case qc4 => unfold maxLen; omega
  case qc5 => omega
  case qc6 => simp
  intro v' w1 hown hgrow hnil
  go_wp2
  go_ret
  exact ⟨v', rfl, by simpa using hown, ((Below.refl _ w).alloc (Nat.le_refl _) _).grown hgrow (by simp) (by intro k hk; simp [Value.ownBlock] at hk; omega)⟩
set_option maxHeartbeats 1000000 in
theorem clone_nilT (w : World) (n c : Nat) : Calls Tryz.prog 97 #[.slice none n c] w fun e w' => e = .returned (.slice none 0 0) ∧ w' = w := by
  have q22 : ∀ (w : World) (a : Option Addr) (n c n' c' : Nat), (binOp .eql 22 (.slice a n c) (.slice none n' c')).run Tryz.prog w = .ok (.bool a.isNone) w := fun w a n c n' c' => Lib.run_eql_slice_nil w _ _ a n c n' c' Tryz.underlying22
  go_enter Tryz.func97, Tryz.ntmps97
  go_wp2
  go_ret
  exact ⟨rfl, rfl⟩

theorem TAtL.old {w : World} {K : Nat → Prop} {n : Nat} {v : Value} {l : List Tp} (h : TAtL w K n v l) : TAtL w (fun b => b < w.heap.size) n v l := by
  rcases h with ⟨b, o, c, hv, hb, hl, hm, hc⟩ | h
  · cases l with
    | nil => exact .inr ⟨rfl, _, _, hv⟩
    | cons x r =>
      refine .inl ⟨b, o, c, hv, ?_, hl, hm, fun i y hy => ?_⟩
      · obtain ⟨vs', g1, g2⟩ := hc 0 x rfl
        obtain ⟨a, c2, rfl⟩ := g2.form
        exact World.block_lt_of_cell? w _ (g1 0 _ rfl)
      · obtain ⟨vs', g1, g2⟩ := hc i y hy
        exact ⟨vs', g1, TAt.old g2⟩
  · exact .inr h
theorem bl_dN {w w1 : World} (h : Below w.heap.size w w1) (n : Nat) : Below w.heap.size w (w1.drewN n) := bl_tr h (bl_drewN _ _)
theorem bl_dr {w w1 : World} (h : Below w.heap.size w w1) : Below w.heap.size w w1.drew := h.drew
theorem bl_set {w w1 : World} (p : Addr) (u : Value) (h : Below w.heap.size w w1) (hp : w.heap.size ≤ p.block) : Below w.heap.size w (w1.setCell p u) := h.setCell hp u

/-- A block that holds these values, and may be written. -/
structure Arr (w : World) (g : Nat) (T : TypeId) (cur : List Value) : Prop where
  b : w.heap[g]? = some (.cells cur.toArray T (0, 0))
theorem Arr.lt {w : World} {g : Nat} {T : TypeId} {cur : List Value} (h : Arr w g T cur) : g < w.heap.size := by
  rcases Nat.lt_or_ge g w.heap.size with h' | h'
  · exact h'
  · have := h.b; simp [Array.getElem?_eq_none h'] at this
theorem Arr.cell {w : World} {g : Nat} {T : TypeId} {cur : List Value} (h : Arr w g T cur) (j : Nat) : w.cell? ⟨g, j, none⟩ = cur[j]? := by rw [cell_at h.b]; simp
theorem Arr.frozen {w : World} {g : Nat} {T : TypeId} {cur : List Value} (h : Arr w g T cur) (j : Nat) : w.frozen? ⟨g, j, none⟩ = false := by simp [World.frozen?, h.b]
theorem Arr.set {w : World} {g : Nat} {T : TypeId} {cur : List Value} (h : Arr w g T cur) (j : Nat) (u : Value) : Arr (w.setCell ⟨g, j, none⟩ u) g T (cur.set j u) := by
  constructor
  simp [World.setCell, Array.getElem?_modify, h.b]
theorem Arr.stays {w w' : World} {g : Nat} {T : TypeId} {cur : List Value} (h : Arr w g T cur) (hb : Below w.heap.size w w') : Arr w' g T cur := ⟨by rw [hb.block g h.lt]; exact h.b⟩
theorem Arr.other {w : World} {g : Nat} {T : TypeId} {cur : List Value} (h : Arr w g T cur) {p : Addr} (hp : g ≠ p.block) (u : Value) : Arr (w.setCell p u) g T cur := ⟨by rw [Below.heap_setCell _ _ _ _ hp]; exact h.b⟩
/-- vs stands in cur from o on. -/
def Seg (cur : List Value) (o : Nat) (vs : List Value) : Prop := ∀ (j : Nat) v, vs[j]? = some v → cur[o + j]? = some v
theorem Seg.cells {w : World} {g : Nat} {T : TypeId} {cur : List Value} (h : Arr w g T cur) {o : Nat} {vs : List Value} (hs : Seg cur o vs) : Cells w g o vs := fun j v hv => (h.cell _).trans (hs j v hv)
theorem Keeps.set {K : Nat → Prop} {w : World} {p : Addr} (hp : ¬ K p.block) (u : Value) : Keeps K w (w.setCell p u) := fun b o v hb hv => by
  rw [World.cell?_of_block (w := w) (Below.heap_setCell _ _ _ _ (fun e => hp (show K p.block from e ▸ hb)))]
  exact hv
end Go.Proofs.YtigliglmejkakaaGreat
