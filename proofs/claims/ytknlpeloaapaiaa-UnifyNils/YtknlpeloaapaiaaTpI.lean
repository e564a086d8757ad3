/- Lists of ints in memory; Index, Contains; which kinds stand in a type. -/
import Derived.BigQuiet
import Derived.Test.YtknlpeloaapaiaaTpR
namespace Go.Proofs.Ytknlpeloaapaiaa
open Go.RowKit
set_option linter.unusedVariables false
set_option linter.unusedSimpArgs false

/-- A slice of ints, in a block of K. -/
def Ls (w : World) (K : Nat → Prop) (v : Value) (l : List Int) : Prop :=
  (∃ b o c, v = .slice (some ⟨b, o, none⟩) l.length c ∧ K b ∧ l.length ≤ c ∧ l.length ≤ maxLen ∧ ∀ (j : Nat) x, l[j]? = some x → w.cell? ⟨b, o + j, none⟩ = some (.int .i64 x)) ∨ (l = [] ∧ ∃ p c, v = .slice p 0 c)
theorem Ls.move {w w' : World} {K K' : Nat → Prop} {v : Value} {l : List Int} (h : Ls w K v l) (hk : Keeps K w w') (hK : ∀ b, K b → K' b) : Ls w' K' v l := by
  rcases h with ⟨b, o, c, hv, hb, hc, hm, hl⟩ | h
  · exact .inl ⟨b, o, c, hv, hK b hb, hc, hm, fun j x hx => hk _ _ _ hb (hl j x hx)⟩
  · exact .inr h
theorem Ls.below {w w' : World} {K : Nat → Prop} {v : Value} {l : List Int} (h : Ls w K v l) (hb : Below w.heap.size w w') : Ls w' K v l := h.move (Keeps.of_below hb) fun _ h => h
theorem Ls.any {w : World} {K : Nat → Prop} {v : Value} {l : List Int} (h : Ls w K v l) : Ls w Any v l := h.move (Keeps.refl _ _) fun _ _ => trivial
theorem Ls.form {w : World} {K : Nat → Prop} {v : Value} {l : List Int} (h : Ls w K v l) : ∃ a c, v = .slice a l.length c ∧ l.length ≤ maxLen := by
  rcases h with ⟨b, o, c, rfl, -, -, hm, -⟩ | ⟨rfl, p, c, rfl⟩
  · exact ⟨_, _, rfl, hm⟩
  · exact ⟨_, _, rfl, Nat.zero_le _⟩
theorem Ls.oldK {w : World} {own : Nat → Prop} {v : Value} {l : List Int} (h : Ls w (fun b => ¬ own b) v l) : Ls w (Free own w) v l := by
  rcases h with ⟨b, o, c, hv, hb, hc, hm, hl⟩ | h
  · cases l with
    | nil => exact .inr ⟨rfl, _, _, hv⟩
    | cons x r => exact .inl ⟨b, o, c, hv, ⟨World.block_lt_of_cell? w _ (hl 0 x rfl), hb⟩, hc, hm, hl⟩
  · exact .inr h
theorem Ls.old {w : World} {K : Nat → Prop} {v : Value} {l : List Int} (h : Ls w K v l) : Ls w (fun b => b < w.heap.size) v l := by
  rcases h with ⟨b, o, c, hv, hb, hc, hm, hl⟩ | h
  · cases l with
    | nil => exact .inr ⟨rfl, _, _, hv⟩
    | cons x r => exact .inl ⟨b, o, c, hv, World.block_lt_of_cell? w _ (hl 0 x rfl), hc, hm, hl⟩
  · exact .inr h
theorem Tp.idx_at {n : Int} {l : List Int} {k : Nat} {x : Int} (hx : l[k]? = some x) : Tp.idx n (l.drop k) k = if x = n then (k : Int) else Tp.idx n (l.drop (k + 1)) (k + 1) := by
  obtain ⟨h1, e1⟩ := List.getElem?_eq_some_iff.1 hx
  rw [List.drop_eq_getElem_cons h1, e1, Tp.idx]

set_option maxHeartbeats 1000000 in
set_option maxRecDepth 100000 in
theorem idxI_any (w : World) (v : Value) (l : List Int) (n : Int) (h : Ls w Any v l) : Calls Try.prog 111 #[v, .int .i64 n] w fun e w' => e = .returned (.int .i64 (Tp.idx n l 0)) ∧ w' = w := by
  obtain ⟨a, c, rfl, hm⟩ := h.form
  unfold maxLen at hm
  go_enter Try.func111, Try.ntmps111
  go_wp2
  go_loopw [8] (fun v wr => ∃ k : Nat, v = .int .i64 k ∧ k ≤ l.length ∧ Hid (Tp.idx n l 0 = Tp.idx n (l.drop k) k) ∧ wr = w) (fun v _ => l.length - (intOf v).toNat)
  case atStart => exact ⟨0, rfl, Nat.zero_le _, rfl, rfl⟩
  case round =>
    obtain ⟨k, rfl, hk, hH, rfl⟩ := hrel
    by_cases hlt : k < l.length
    · obtain ⟨b, o, c', hv, -, -, -, hl⟩ := h.resolve_right (fun h => by rw [h.1] at hlt; exact absurd hlt (Nat.not_lt_zero _))
      injection hv with e1 e2 e3
      subst e1
      obtain ⟨x, hx⟩ : ∃ x, l[k]? = some x := ⟨_, List.getElem?_eq_getElem hlt⟩
      have hc := hl k x hx
      have HX := hH.out
      rw [Tp.idx_at hx] at HX
      clear hl hx hH h e2 e3
      by_cases he : x = n
      · rw [if_pos he] at HX
        have HY : Hid (Tp.idx n l 0 = (k : Int)) := HX
        have he2 : (n == x) = true := by rw [beq_iff_eq]; exact he.symm
        clear HX he
        go_wp2
        go_ret
        exact ⟨ret_int HY.out.symm, rfl⟩
      · rw [if_neg he] at HX
        have HY : Hid (Tp.idx n l 0 = Tp.idx n (l.drop (k + 1)) (k + 1)) := HX
        have he2 : (n == x) = false := by rw [beq_eq_false_iff_ne]; exact fun e => he e.symm
        clear HX he
        go_wp2
        go_roundw
        case rel => exact ⟨k + 1, by go_num, by omega, HY, by first | trivial | rfl⟩
        case measure => simp [intOf]; omega
    · have HX : Hid (Tp.idx n l 0 = -1) := by
        show _ = _
        rw [hH.out, List.drop_eq_nil_of_le (by omega)]; rfl
      clear hH h
      go_wp2
      go_ret
      exact ⟨ret_int HX.out.symm, rfl⟩

theorem Tp.idx_neg (n : Int) : ∀ (l : List Int) (i : Nat), (0 ≤ Tp.idx n l i) ↔ n ∈ l
  | [], i => by simp [Tp.idx]
  | x :: r, i => by
    rw [Tp.idx]
    by_cases h : x = n
    · rw [if_pos h]; simp [h]
    · rw [if_neg h, Tp.idx_neg n r (i + 1), List.mem_cons]
      exact ⟨.inr, fun h2 => h2.elim (fun e => absurd e.symm h) id⟩
def ISpare (v : Value) (l : List Int) (W : World) (s : Unit) (own : Nat → Prop) (w : World) : Prop := (∀ b, ¬ own b) ∧ Below W.heap.size W w ∧ Ls w Any v l
theorem ISpare.steady (v : Value) (l : List Int) (W : World) : Steady (ISpare v l W) := ⟨fun s own w w' h hb => ⟨h.1, bl_tr h.2.1 hb, h.2.2.below hb⟩, fun s own w b h ho => absurd ho (h.1 b)⟩
end Go.Proofs.Ytknlpeloaapaiaa
