/- Lists of texts in memory: how they lie, Texts, Words and Has. -/
import Derived.Test.YtcccmbiocknknaaDoorLeaf
import Derived.Laws.AppendOwn
namespace Go.Proofs.YtcccmbiocknknaaDoor
open Go.RowKit
set_option linter.unusedVariables false

/-- The value v is a slice of the texts xs. -/
def Strs (W : World) (v : Value) (xs : List ByteArray) : Prop :=
  (∃ b o c, v = .slice (some ⟨b, o, none⟩) xs.length c ∧ ∀ (j : Nat) x, xs[j]? = some x → W.cell? ⟨b, o + j, none⟩ = some (.string x)) ∨ (xs = [] ∧ ∃ p c, v = .slice p 0 c)

theorem Strs.nil (W : World) (p : Option Addr) (c : Nat) : Strs W (.slice p 0 c) [] := .inr ⟨rfl, p, c, rfl⟩
theorem Strs.own {W : World} {base n : Nat} {v : Value} {xs : List ByteArray} (h : W.ownsRow base 9 1 v n (xs.map Value.string)) : Strs W v xs := by
  obtain ⟨hl, h2⟩ := h
  have hn : xs.length = n := by simpa using hl
  rcases h2 with ⟨rfl, rfl⟩ | ⟨g, cap, cur, rfl, hg, hh, hc, hm, hsz, ht⟩
  · exact .inr ⟨List.eq_nil_of_length_eq_zero hn, none, 0, rfl⟩
  · refine .inl ⟨g, 0, cap, by rw [hn], fun j x hx => ?_⟩
    have h1 : (cur.toList.take (n * 1))[j]? = some (.string x) := by rw [ht, List.getElem?_map, hx]; rfl
    rw [List.getElem?_take] at h1
    split at h1
    · simpa [World.cell?, hh] using h1
    · cases h1
theorem Strs.below {W W' : World} {B : Nat} {v : Value} {xs : List ByteArray} (h : Strs W v xs) (hb : Below B W W') (hB : W.heap.size ≤ B) : Strs W' v xs := by
  rcases h with ⟨b, o, c, rfl, hc⟩ | h
  · refine .inl ⟨b, o, c, rfl, fun j x hx => ?_⟩
    have := hc j x hx
    have hlt : b < W.heap.size := World.block_lt_of_cell? W _ this
    exact (World.cell?_of_block (hb.block b (by omega))).trans this
  · exact .inr h
theorem Strs.drewN {W : World} {v : Value} {xs : List ByteArray} (h : Strs W v xs) (n : Nat) : Strs (W.drewN n) v xs := by
  induction n with
  | zero => exact h
  | succ k ih => exact ih

theorem Nm.str_eq (x y : ByteArray) : (x.toList == y.toList) = decide (x = y) := by
  rw [Lib.toList_data, Lib.toList_data]
  by_cases h : x = y
  · subst h; simp
  · rw [decide_eq_false h, beq_eq_false_iff_ne]
    intro e
    exact h (by cases x; cases y; congr 1; exact Array.toList_inj.1 e)

set_option maxHeartbeats 1000000 in
theorem texts_any (a b : Value) (xs ys : List ByteArray) (w : World) (ha : Strs w a xs) (hb : Strs w b ys) (hx : xs.length ≤ maxLen) (hy : ys.length ≤ maxLen) :
    Calls Tryd.prog 10 #[a, b] w fun e w' => e = .returned (.bool (decide (xs = ys))) ∧ ∃ n, w' = w.drewN n := by
  unfold maxLen at hx hy
  by_cases hl : xs.length = ys.length
  · rcases ha with ⟨b1, o1, c1, rfl, hc1⟩ | ⟨rfl, p, c, rfl⟩
    · rcases hb with ⟨b2, o2, c2, rfl, hc2⟩ | ⟨rfl, p, c, rfl⟩
      · go_enter Tryd.func10, Tryd.ntmps10
        go_wp2
        go_loopw [5] (fun v wr => ∃ k : Nat, v = .int .i64 k ∧ k ≤ xs.length ∧ Hid (∀ j, j < k → xs[j]? = ys[j]?) ∧ ∃ n, wr = w.drewN n) (fun v _ => xs.length - (intOf v).toNat)
        case atStart => exact ⟨0, rfl, Nat.zero_le _, fun j h => absurd h (Nat.not_lt_zero _), 0, rfl⟩
        case round =>
          obtain ⟨k, rfl, hk, hall, n, rfl⟩ := hrel
          by_cases hlt : k < xs.length
          · obtain ⟨x, hxk⟩ : ∃ x, xs[k]? = some x := ⟨_, List.getElem?_eq_getElem hlt⟩
            obtain ⟨y, hyk⟩ : ∃ y, ys[k]? = some y := ⟨_, List.getElem?_eq_getElem (by omega)⟩
            have d1 := hc1 k x hxk
            have d2 := hc2 k y hyk
            have hlt2 : k < ys.length := by omega
            by_cases he : x = y
            · subst he
              have HX : Hid (∀ j, j < k + 1 → xs[j]? = ys[j]?) := fun j hj => by
                by_cases e : j = k
                · subst e; rw [hxk, hyk]
                · exact hall.out j (by omega)
              have h3 : (x.toList == x.toList) = true := beq_self_eq_true _
              have HL : Hid (xs.length = ys.length) := hl
              clear hall hxk hyk hc1 hc2 hl
              go_wp2
              go_quiet (fail)
              go_wp2
              go_roundw
              case rel => exact ⟨k + 1, by go_num, by omega, HX, _, rfl⟩
              case measure => simp [intOf]; omega
            · have HX : Hid (decide (xs = ys) = false) := by
                show _ = _
                rw [decide_eq_false]
                intro e; rw [e, hyk] at hxk; exact he (Option.some.inj hxk).symm
              have h3 : (x.toList == y.toList) = false := by rw [Nm.str_eq, decide_eq_false he]
              clear hall hxk hyk hc1 hc2 hl he
              go_wp2
              go_quiet (fail)
              go_wp2
              go_ret
              exact ⟨ret_bool HX.out.symm, _, World.drewN_drewN _ _ _⟩
          · have HX : Hid (decide (xs = ys) = true) := by
              show _ = _
              rw [decide_eq_true]
              apply List.ext_getElem?
              intro j
              by_cases hj : j < k
              · exact hall.out j hj
              · rw [List.getElem?_eq_none (by omega), List.getElem?_eq_none (by omega)]
            clear hall hc1 hc2
            go_wp2
            go_ret
            exact ⟨ret_bool HX.out.symm, n, rfl⟩
      · have : xs = [] := List.eq_nil_of_length_eq_zero (by simpa using hl)
        subst this
        go_enter Tryd.func10, Tryd.ntmps10
        go_wp2
        go_loop [5] (fun v => v = .int .i64 0) (fun v => 0)
        case atStart => rfl
        case round =>
          subst hrel
          go_wp2
          go_ret
          exact ⟨rfl, 0, rfl⟩
    · have : ys = [] := List.eq_nil_of_length_eq_zero (by simpa using hl.symm)
      subst this
      obtain ⟨p2, c2, rfl⟩ : ∃ p2 c2, b = .slice p2 0 c2 := by
        rcases hb with ⟨b2, o2, c2, rfl, hc2⟩ | ⟨_, p, c, rfl⟩
        · exact ⟨_, _, rfl⟩
        · exact ⟨_, _, rfl⟩
      go_enter Tryd.func10, Tryd.ntmps10
      go_wp2
      go_loop [5] (fun v => v = .int .i64 0) (fun v => 0)
      case atStart => rfl
      case round =>
        subst hrel
        go_wp2
        go_ret
        exact ⟨rfl, 0, rfl⟩
  · obtain ⟨p1, c1, rfl⟩ : ∃ p1 c1, a = .slice p1 xs.length c1 := by
      rcases ha with ⟨b2, o2, c2, rfl, hc2⟩ | ⟨rfl, p, c, rfl⟩
      · exact ⟨_, _, rfl⟩
      · exact ⟨_, _, rfl⟩
    obtain ⟨p2, c2, rfl⟩ : ∃ p2 c2, b = .slice p2 ys.length c2 := by
      rcases hb with ⟨b2, o2, c2, rfl, hc2⟩ | ⟨rfl, p, c, rfl⟩
      · exact ⟨_, _, rfl⟩
      · exact ⟨_, _, rfl⟩
    have H : Hid (decide (xs = ys) = false) := by
      show _ = _
      rw [decide_eq_false]
      intro e; exact hl (by rw [e])
    have hl' : ((xs.length : Int) == (ys.length : Int)) = false := by rw [beq_eq_false_iff_ne]; omega
    clear hl
    go_enter Tryd.func10, Tryd.ntmps10
    go_wp2
    go_ret
    exact ⟨ret_bool H.out.symm, 0, rfl⟩

/-- The reserved words as texts. -/
def Nm.wordsB : List ByteArray := [⟨#[98, 111, 111, 108]⟩, ⟨#[99, 97, 115, 101]⟩, ⟨#[100, 97, 116, 97]⟩, ⟨#[101, 108, 115, 101]⟩, ⟨#[101, 110, 100]⟩, ⟨#[102, 97, 108, 115, 101]⟩, ⟨#[102, 110]⟩, ⟨#[102, 117, 110]⟩, ⟨#[102, 117, 110, 99, 116, 111, 114]⟩, ⟨#[105, 102]⟩, ⟨#[105, 110]⟩, ⟨#[105, 110, 116]⟩, ⟨#[108, 101, 116]⟩, ⟨#[111, 102]⟩, ⟨#[115, 105, 103]⟩, ⟨#[115, 105, 103, 110, 97, 116, 117, 114, 101]⟩, ⟨#[115, 116, 114, 117, 99, 116]⟩, ⟨#[115, 116, 114, 117, 99, 116, 117, 114, 101]⟩, ⟨#[116, 104, 101, 110]⟩, ⟨#[116, 114, 117, 101]⟩, ⟨#[116, 121, 112, 101]⟩, ⟨#[117, 110, 105, 116]⟩, ⟨#[118, 97, 108]⟩, ⟨#[119, 104, 101, 114, 101]⟩]
theorem Nm.wordsB_eq : Nm.wordsB = Nm.words.map fun l => ⟨l.toArray⟩ := rfl

set_option maxRecDepth 100000 in
theorem words_any (w : World) : Calls Tryd.prog 9 #[] w fun e w' => e = .returned (.slice (some ⟨w.heap.size, 0, none⟩) 24 24) ∧ w' = w.alloc (.cells (Nm.wordsB.map Value.string).toArray 9) := by
  go_enter Tryd.func9, Tryd.ntmps9
  go_wp2
  go_ret
  exact ⟨rfl, rfl⟩

set_option maxRecDepth 100000 in
theorem refWords_any (w : World) : Calls Tryd.prog 11 #[] w fun e w' => e = .returned (.slice (some ⟨w.heap.size, 0, none⟩) 24 24) ∧ w' = w.alloc (.cells (Nm.wordsB.map Value.string).toArray 9) := by
  go_enter Tryd.func11, Tryd.ntmps11
  go_wp2
  go_ret
  exact ⟨rfl, rfl⟩
end Go.Proofs.YtcccmbiocknknaaDoor
