/- The document's Text: the walks. -/
import Derived.Deep.RegionHeld
import Derived.Test.YtgnmgooljcgfiaaDoorTpDx
import Derived.Test.YtgnmgooljcgfiaaDoorTpT4
namespace Go.Proofs.YtgnmgooljcgfiaaDoor
open Go.RowKit
set_option linter.unusedVariables false
set_option linter.unusedSimpArgs false

def RTextOf (n : Nat) : Prop := ∀ (w : World) (vs : List Value) (t : Tp), TAt w Any n vs t → t.text.length + 100 ≤ 140737488355328 → Calls Tryd.prog 20 #[.agg vs.toArray] w fun e w' => e = .returned (.string ⟨t.text.toArray⟩) ∧ Below w.heap.size w w'
def RAtOf (n : Nat) : Prop := ∀ (w : World) (vs : List Value) (t : Tp) (p : Bool), TAt w Any n vs t → t.text.length + 100 ≤ 140737488355328 → Calls Tryd.prog 33 #[.agg vs.toArray, .bool true, .bool p] w fun e w' => e = .returned (.string ⟨(Tp.wrap (if p then 3 else 2) t.level t.text).toArray⟩) ∧ Below w.heap.size w w'

theorem Tp.wrap_at (t : Tp) (p : Bool) (s : List UInt8) : Tp.wrap (if p then 3 else 2) t.level s = if t.ks.length = 2 ∧ (t.k = 4 ∨ (t.k = 5 ∧ p = true)) then [40] ++ s ++ [41] else s := by
  unfold Tp.wrap Tp.level
  by_cases h2 : t.ks.length = 2
  · by_cases h4 : t.k = 4
    · cases p <;> simp [h2, h4]
    · by_cases h5 : t.k = 5
      · cases p <;> simp [h2, h5]
      · cases p <;> simp [h4, h5]
  · cases p <;> simp [h2]

set_option maxHeartbeats 1000000 in
set_option maxRecDepth 100000 in
theorem refAt_false (n : Nat) (ih : RTextOf n) (w : World) (vs : List Value) (t : Tp) (hT : TAt w Any n vs t) (hl : t.text.length + 100 ≤ 140737488355328) : Calls Tryd.prog 33 #[.agg vs.toArray, .bool true, .bool false] w fun e w' => e = .returned (.string ⟨(Tp.wrap (if false then 3 else 2) t.level t.text).toArray⟩) ∧ Below w.heap.size w w' := by
  have hm : t.ks.length ≤ maxLen := by
    cases n with
    | zero => exact hT.elim
    | succ n => obtain ⟨v, -, -, -, h4⟩ := hT.open_; obtain ⟨a, c, -, hm⟩ := h4.form; exact hm
  unfold maxLen at hm
  obtain ⟨a, c, rfl⟩ := hT.form
  have B1 : Hid (Below w.heap.size w (w.alloc (.cells #[.int .i64 t.k, .int .i64 t.n, .slice a t.ks.length c] 24))) := bl_alloc (Below.refl _ _) _
  have X1 : Hid (Arr (w.alloc (.cells #[.int .i64 t.k, .int .i64 t.n, .slice a t.ks.length c] 24)) w.heap.size 24 [.int .i64 t.k, .int .i64 t.n, .slice a t.ks.length c]) := ⟨heap_alloc_at _ _⟩
  have HI : Hid (∀ wz, Below w.heap.size w wz → Calls Tryd.prog 20 #[.agg #[.int .i64 t.k, .int .i64 t.n, .slice a t.ks.length c]] wz fun e w' => e = .returned (.string ⟨t.text.toArray⟩) ∧ Below wz.heap.size wz w') := fun wz hz => ih wz _ t (hT.below hz) hl
  have e1 : ¬ 9223372036854775807 < 1 + t.text.length := by omega
  have e2 : ¬ 9223372036854775807 < 1 + t.text.length + 1 := by omega
  have HH := Tp.wrap_at t false t.text
  generalize Tp.wrap (if false then 3 else 2) t.level t.text = r at HH ⊢
  generalize t.text = s at HH HI e1 e2
  clear ih hT hl hm
  by_cases h2 : t.ks.length = 2
  rotate_left
  · have g2 : ((t.ks.length : Int) == 2) = false := by rw [beq_eq_false_iff_ne]; omega
    have HR : Hid (r = s) := by show _ = _; rw [HH, if_neg (fun h => h2 h.1)]
    clear HH h2
    go_enter Tryd.func33, Tryd.ntmps33
    go_wp2_with (first | (go_at_call 20; refine (HI.out _ B1.out).mono ?_; rintro e w2 ⟨rfl, hb2⟩; have B2 : Hid (Below w.heap.size w w2) := bl_tr B1.out hb2; have X2 : Hid (Arr w2 w.heap.size 24 _) := X1.out.stays hb2; have k2 := X2.out.cell; clear hb2))
    go_ret
    exact ⟨by rw [HR.out]; rfl, B2.out⟩
  have g2 : ((t.ks.length : Int) == 2) = true := by simp; omega
  by_cases h4 : t.k = 4
  · have g4 : (t.k == 4) = true := by simp [h4]
    have HR : Hid (r = [40] ++ s ++ [41]) := by show _ = _; rw [HH, if_pos ⟨h2, .inl h4⟩]
    clear HH h2 h4
    go_enter Tryd.func33, Tryd.ntmps33
    go_wp2_with (first | (go_at_call 20; refine (HI.out _ B1.out).mono ?_; rintro e w2 ⟨rfl, hb2⟩; have B2 : Hid (Below w.heap.size w w2) := bl_tr B1.out hb2; have X2 : Hid (Arr w2 w.heap.size 24 _) := X1.out.stays hb2; have k2 := X2.out.cell; clear hb2))
    go_ret
    exact ⟨by rw [HR.out, ← ByteArray.mk_append_mk, ← ByteArray.mk_append_mk]; rfl, B2.out⟩
  have g4 : (t.k == 4) = false := by simp [h4]
  by_cases h5 : t.k = 5
  · have g5 : (t.k == 5) = true := by simp [h5]
    have HR : Hid (r = s) := by show _ = _; rw [HH]; simp [h2, h5]
    clear HH h2 h4 h5
    go_enter Tryd.func33, Tryd.ntmps33
    go_wp2_with (first | (go_at_call 20; refine (HI.out _ B1.out).mono ?_; rintro e w2 ⟨rfl, hb2⟩; have B2 : Hid (Below w.heap.size w w2) := bl_tr B1.out hb2; have X2 : Hid (Arr w2 w.heap.size 24 _) := X1.out.stays hb2; have k2 := X2.out.cell; clear hb2))
    go_ret
    exact ⟨by rw [HR.out]; rfl, B2.out⟩
  have g5 : (t.k == 5) = false := by simp [h5]
  have HR : Hid (r = s) := by show _ = _; rw [HH]; simp [h4, h5]
  clear HH h2 h4 h5
  go_enter Tryd.func33, Tryd.ntmps33
  go_wp2_with (first | (go_at_call 20; refine (HI.out _ B1.out).mono ?_; rintro e w2 ⟨rfl, hb2⟩; have B2 : Hid (Below w.heap.size w w2) := bl_tr B1.out hb2; have X2 : Hid (Arr w2 w.heap.size 24 _) := X1.out.stays hb2; have k2 := X2.out.cell; clear hb2))
  go_ret
  exact ⟨by rw [HR.out]; rfl, B2.out⟩

set_option maxHeartbeats 1000000 in
set_option maxRecDepth 100000 in
theorem refAt_true (n : Nat) (ih : RTextOf n) (w : World) (vs : List Value) (t : Tp) (hT : TAt w Any n vs t) (hl : t.text.length + 100 ≤ 140737488355328) : Calls Tryd.prog 33 #[.agg vs.toArray, .bool true, .bool true] w fun e w' => e = .returned (.string ⟨(Tp.wrap (if true then 3 else 2) t.level t.text).toArray⟩) ∧ Below w.heap.size w w' := by
  have hm : t.ks.length ≤ maxLen := by
    cases n with
    | zero => exact hT.elim
    | succ n => obtain ⟨v, -, -, -, h4⟩ := hT.open_; obtain ⟨a, c, -, hm⟩ := h4.form; exact hm
  unfold maxLen at hm
  obtain ⟨a, c, rfl⟩ := hT.form
  have B1 : Hid (Below w.heap.size w (w.alloc (.cells #[.int .i64 t.k, .int .i64 t.n, .slice a t.ks.length c] 24))) := bl_alloc (Below.refl _ _) _
  have X1 : Hid (Arr (w.alloc (.cells #[.int .i64 t.k, .int .i64 t.n, .slice a t.ks.length c] 24)) w.heap.size 24 [.int .i64 t.k, .int .i64 t.n, .slice a t.ks.length c]) := ⟨heap_alloc_at _ _⟩
  have HI : Hid (∀ wz, Below w.heap.size w wz → Calls Tryd.prog 20 #[.agg #[.int .i64 t.k, .int .i64 t.n, .slice a t.ks.length c]] wz fun e w' => e = .returned (.string ⟨t.text.toArray⟩) ∧ Below wz.heap.size wz w') := fun wz hz => ih wz _ t (hT.below hz) hl
  have e1 : ¬ 9223372036854775807 < 1 + t.text.length := by omega
  have e2 : ¬ 9223372036854775807 < 1 + t.text.length + 1 := by omega
  have HH := Tp.wrap_at t true t.text
  generalize Tp.wrap (if true then 3 else 2) t.level t.text = r at HH ⊢
  generalize t.text = s at HH HI e1 e2
  clear ih hT hl hm
  by_cases h2 : t.ks.length = 2
  rotate_left
  · have g2 : ((t.ks.length : Int) == 2) = false := by rw [beq_eq_false_iff_ne]; omega
    have HR : Hid (r = s) := by show _ = _; rw [HH, if_neg (fun h => h2 h.1)]
    clear HH h2
    go_enter Tryd.func33, Tryd.ntmps33
    go_wp2_with (first | (go_at_call 20; refine (HI.out _ B1.out).mono ?_; rintro e w2 ⟨rfl, hb2⟩; have B2 : Hid (Below w.heap.size w w2) := bl_tr B1.out hb2; have X2 : Hid (Arr w2 w.heap.size 24 _) := X1.out.stays hb2; have k2 := X2.out.cell; clear hb2))
    go_ret
    exact ⟨by rw [HR.out]; rfl, B2.out⟩
  have g2 : ((t.ks.length : Int) == 2) = true := by simp; omega
  by_cases h4 : t.k = 4
  · have g4 : (t.k == 4) = true := by simp [h4]
    have HR : Hid (r = [40] ++ s ++ [41]) := by show _ = _; rw [HH, if_pos ⟨h2, .inl h4⟩]
    clear HH h2 h4
    go_enter Tryd.func33, Tryd.ntmps33
    go_wp2_with (first | (go_at_call 20; refine (HI.out _ B1.out).mono ?_; rintro e w2 ⟨rfl, hb2⟩; have B2 : Hid (Below w.heap.size w w2) := bl_tr B1.out hb2; have X2 : Hid (Arr w2 w.heap.size 24 _) := X1.out.stays hb2; have k2 := X2.out.cell; clear hb2))
    go_ret
    exact ⟨by rw [HR.out, ← ByteArray.mk_append_mk, ← ByteArray.mk_append_mk]; rfl, B2.out⟩
  have g4 : (t.k == 4) = false := by simp [h4]
  by_cases h5 : t.k = 5
  · have g5 : (t.k == 5) = true := by simp [h5]
    have HR : Hid (r = [40] ++ s ++ [41]) := by show _ = _; rw [HH]; simp [h2, h5]
    clear HH h2 h4 h5
    go_enter Tryd.func33, Tryd.ntmps33
    go_wp2_with (first | (go_at_call 20; refine (HI.out _ B1.out).mono ?_; rintro e w2 ⟨rfl, hb2⟩; have B2 : Hid (Below w.heap.size w w2) := bl_tr B1.out hb2; have X2 : Hid (Arr w2 w.heap.size 24 _) := X1.out.stays hb2; have k2 := X2.out.cell; clear hb2))
    go_ret
    exact ⟨by rw [HR.out]; rw [← ByteArray.mk_append_mk, ← ByteArray.mk_append_mk]; rfl, B2.out⟩
  have g5 : (t.k == 5) = false := by simp [h5]
  have HR : Hid (r = s) := by show _ = _; rw [HH]; simp [h4, h5]
  clear HH h2 h4 h5
  go_enter Tryd.func33, Tryd.ntmps33
  go_wp2_with (first | (go_at_call 20; refine (HI.out _ B1.out).mono ?_; rintro e w2 ⟨rfl, hb2⟩; have B2 : Hid (Below w.heap.size w w2) := bl_tr B1.out hb2; have X2 : Hid (Arr w2 w.heap.size 24 _) := X1.out.stays hb2; have k2 := X2.out.cell; clear hb2))
  go_ret
  exact ⟨by rw [HR.out]; rfl, B2.out⟩

theorem refAt_step (n : Nat) (ih : RTextOf n) : RAtOf n := by
  intro w vs t p hT hl
  cases p with
  | false => exact refAt_false n ih w vs t hT hl
  | true => exact refAt_true n ih w vs t hT hl
theorem Tp.two_len {k n : Int} {x y : Tp} (hk : k = 4 ∨ k = 5) : x.text.length + y.text.length ≤ (Tp.text (.mk k n [x, y])).length := by
  have hw : ∀ f g s, s.length ≤ (Tp.wrap f g s).length := by intro f g s; unfold Tp.wrap; split <;> simp <;> omega
  rw [Tp.text_two]
  rcases hk with rfl | rfl
  · rw [if_pos rfl]
    have := hw 2 x.level x.text
    have := hw 1 y.level y.text
    simp only [List.length_append]; omega
  · rw [if_neg (by decide), if_pos rfl]
    have := hw 2 x.level x.text
    have := hw 3 y.level y.text
    simp only [List.length_append]; omega
theorem Tp.wrap_one (g : Int) (s : List UInt8) (hg : 1 ≤ g) : Tp.wrap 1 g s = s := by unfold Tp.wrap; rw [if_pos hg]
theorem Tp.level_pos (t : Tp) : 1 ≤ t.level := by
  unfold Tp.level
  split
  · decide
  · split <;> decide
theorem keep7 {W1 w' w'' : World} {p0 p1 p2 p3 p4 p5 p6 : Addr} {v0 v1 v2 v3 v4 v5 v6 : Value} (hb : Below w'.heap.size w' w'') (h : w'.cell? p0 = some v0 ∧ w'.cell? p1 = some v1 ∧ w'.cell? p2 = some v2 ∧ w'.cell? p3 = some v3 ∧ w'.cell? p4 = some v4 ∧ w'.cell? p5 = some v5 ∧ w'.cell? p6 = some v6 ∧ Below W1.heap.size W1 w') : w''.cell? p0 = some v0 ∧ w''.cell? p1 = some v1 ∧ w''.cell? p2 = some v2 ∧ w''.cell? p3 = some v3 ∧ w''.cell? p4 = some v4 ∧ w''.cell? p5 = some v5 ∧ w''.cell? p6 = some v6 ∧ Below W1.heap.size W1 w'' :=
  have hk : ∀ p v, w'.cell? p = some v → w''.cell? p = some v := fun p v hv => (hb.cell (World.block_lt_of_cell? w' _ hv)).trans hv
  ⟨hk _ _ h.1, hk _ _ h.2.1, hk _ _ h.2.2.1, hk _ _ h.2.2.2.1, hk _ _ h.2.2.2.2.1, hk _ _ h.2.2.2.2.2.1, hk _ _ h.2.2.2.2.2.2.1, bl_tr h.2.2.2.2.2.2.2 hb⟩
theorem belo7 {W1 w' : World} {p0 p1 p2 p3 p4 p5 p6 : Addr} {v0 v1 v2 v3 v4 v5 v6 : Value} (h : w'.cell? p0 = some v0 ∧ w'.cell? p1 = some v1 ∧ w'.cell? p2 = some v2 ∧ w'.cell? p3 = some v3 ∧ w'.cell? p4 = some v4 ∧ w'.cell? p5 = some v5 ∧ w'.cell? p6 = some v6 ∧ Below W1.heap.size W1 w') : Below W1.heap.size W1 w' := h.2.2.2.2.2.2.2

set_option maxHeartbeats 4000000 in
set_option maxRecDepth 100000 in
theorem refText_step (i : Nat) (ih : RTextOf i) : RTextOf (i + 1) := by
  have iha := refAt_step i ih
  intro w vs t hT hlen
  obtain ⟨v, rfl, -, hn, hL⟩ := hT.open_
  obtain ⟨a, c, rfl, hl⟩ := hL.form
  obtain ⟨k, n, ks⟩ := t
  simp only [Tp.k, Tp.n, Tp.ks] at hL hl hn ⊢
  unfold maxLen at hl
  have HL : Hid (TAtL w Any i (.slice a ks.length c) ks) := hL
  clear hT hL
  by_cases h1 : k = 1
  · subst h1
    have HH : Hid (Tp.text (.mk 1 n ks) = [105, 110, 116]) := by
      show _ = _
      rw [Tp.text_leaf (by simp [Tp.k]) (by simp [Tp.k])]; rfl
    clear ih iha HL hlen hn
    go_enter Tryd.func20, Tryd.ntmps20
    go_wp2
    go_ret
    exact ⟨by rw [HH.out]; rfl, bl_alloc (Below.refl _ _) _⟩
  by_cases h2 : k = 2
  · subst h2
    have HH : Hid (Tp.text (.mk 2 n ks) = [98, 111, 111, 108]) := by
      show _ = _
      rw [Tp.text_leaf (by simp [Tp.k]) (by simp [Tp.k])]; rfl
    clear ih iha HL hlen hn
    go_enter Tryd.func20, Tryd.ntmps20
    go_wp2
    go_ret
    exact ⟨by rw [HH.out]; rfl, bl_alloc (Below.refl _ _) _⟩
  by_cases h3 : k = 3
  · subst h3
    have HH : Hid (Tp.text (.mk 3 n ks) = [117, 110, 105, 116]) := by
      show _ = _
      rw [Tp.text_leaf (by simp [Tp.k]) (by simp [Tp.k])]; rfl
    clear ih iha HL hlen hn
    go_enter Tryd.func20, Tryd.ntmps20
    go_wp2
    go_ret
    exact ⟨by rw [HH.out]; rfl, bl_alloc (Below.refl _ _) _⟩
  by_cases h6 : k = 6
  · subst h6
    have HH : Hid (Tp.text (.mk 6 n ks) = [35] ++ Lib.itoa n) := by
      show _ = _
      rw [Tp.text_leaf (by simp [Tp.k]) (by simp [Tp.k])]; rfl
    have HI : Hid (∀ w : World, Calls Tryd.prog 31 #[.int .i64 n] w fun e w' => e = .returned (.string ⟨(Lib.itoa n).toArray⟩) ∧ Below w.heap.size w w') := refDecimal n hn
    have e1 : ¬ 9223372036854775807 < 1 + (Lib.itoa n).length := by have := Tp.itoa_len hn; omega
    generalize Lib.itoa n = s at HI HH e1
    clear ih iha HL hlen hn
    go_enter Tryd.func20, Tryd.ntmps20
    go_wp2_with (first | (go_at_call 31; refine (HI.out _).mono ?_; rintro e w2 ⟨rfl, hb2⟩))
    go_ret
    exact ⟨by rw [HH.out, ← ByteArray.mk_append_mk]; rfl, bl_tr (bl_alloc (Below.refl _ _) _) hb2⟩
  by_cases h7 : k = 7
  · subst h7
    have HH : Hid (Tp.text (.mk 7 n ks) = [63] ++ Lib.itoa n) := by
      show _ = _
      rw [Tp.text_leaf (by simp [Tp.k]) (by simp [Tp.k])]; rfl
    have HI : Hid (∀ w : World, Calls Tryd.prog 31 #[.int .i64 n] w fun e w' => e = .returned (.string ⟨(Lib.itoa n).toArray⟩) ∧ Below w.heap.size w w') := refDecimal n hn
    have e1 : ¬ 9223372036854775807 < 1 + (Lib.itoa n).length := by have := Tp.itoa_len hn; omega
    generalize Lib.itoa n = s at HI HH e1
    clear ih iha HL hlen hn
    go_enter Tryd.func20, Tryd.ntmps20
    go_wp2_with (first | (go_at_call 31; refine (HI.out _).mono ?_; rintro e w2 ⟨rfl, hb2⟩))
    go_ret
    exact ⟨by rw [HH.out, ← ByteArray.mk_append_mk]; rfl, bl_tr (bl_alloc (Below.refl _ _) _) hb2⟩
  by_cases h8 : k = 8
  · subst h8
    have HH : Hid (Tp.text (.mk 8 n ks) = Tp.gen n) := by
      show _ = _
      rw [Tp.text_leaf (by simp [Tp.k]) (by simp [Tp.k])]; rfl
    have HI : Hid (∀ w : World, Calls Tryd.prog 32 #[.int .i64 n] w fun e w' => e = .returned (.string ⟨(Tp.gen n).toArray⟩) ∧ Below w.heap.size w w') := fun w => refGen_any n hn w
    generalize Tp.gen n = s at HI HH
    clear ih iha HL hlen hn
    go_enter Tryd.func20, Tryd.ntmps20
    go_wp2_with (first | (go_at_call 32; refine (HI.out _).mono ?_; rintro e w2 ⟨rfl, hb2⟩))
    go_ret
    exact ⟨by rw [HH.out]; rfl, bl_tr (bl_alloc (Below.refl _ _) _) hb2⟩
  have g1 : (k == 1) = false := by simp [h1]
  have g2 : (k == 2) = false := by simp [h2]
  have g3 : (k == 3) = false := by simp [h3]
  have g6 : (k == 6) = false := by simp [h6]
  have g7 : (k == 7) = false := by simp [h7]
  have g8 : (k == 8) = false := by simp [h8]
  by_cases hz : ks.length = 2
  rotate_left
  · have gz : ((ks.length : Int) != 2) = true := by simp; omega
    have HH : Hid (Tp.text (.mk k n ks) = [63]) := by
      show _ = _
      rw [Tp.text_other (t := .mk k n ks) hz]
      simp only [Tp.k, Tp.n]
      by_cases h45 : k = 4 ∨ k = 5
      · exact if_pos h45
      · refine (if_neg h45).trans ?_
        unfold Tp.leaf
        rw [if_neg h1, if_neg h2, if_neg h3, if_neg h6, if_neg h7, if_neg h8]
    clear ih iha HL hlen hn h1 h2 h3 h6 h7 h8 hz
    go_enter Tryd.func20, Tryd.ntmps20
    go_wp2
    go_ret
    exact ⟨by rw [HH.out]; rfl, bl_alloc (Below.refl _ _) _⟩
  obtain ⟨x, y, rfl⟩ : ∃ x y, ks = [x, y] := by
    match ks, hz with
    | [x, y], _ => exact ⟨x, y, rfl⟩
  obtain ⟨g, o, rfl⟩ : ∃ b o, a = some ⟨b, o, none⟩ := by
    rcases HL.out with ⟨b, o, c, hv, -⟩ | ⟨h0, -⟩
    · injection hv with e1 e2 e3; exact ⟨b, o, e1⟩
    · cases h0
  by_cases hk : k = 4 ∨ k = 5
  rotate_left
  · have f4 : (k != 4) = true := by simp; omega
    have f5 : (k != 5) = true := by simp; omega
    have HH : Hid (Tp.text (.mk k n [x, y]) = [63]) := by
      show _ = _
      rw [Tp.text_two, if_neg (by omega), if_neg (by omega)]
      unfold Tp.leaf
      rw [if_neg h1, if_neg h2, if_neg h3, if_neg h6, if_neg h7, if_neg h8]
    clear ih iha HL hlen hn h1 h2 h3 h6 h7 h8 hz hk
    go_enter Tryd.func20, Tryd.ntmps20
    go_wp2
    go_ret
    exact ⟨by rw [HH.out]; rfl, bl_alloc (Below.refl _ _) _⟩
  have hlens := Tp.two_len (n := n) (x := x) (y := y) hk
  obtain ⟨vx, tx, x0, x1, x2, -, hgl⟩ := HL.out.elem (i := 0) (x := x) rfl
  obtain ⟨vy, ty, z0, z1, z2, -, -⟩ := HL.out.elem (i := 1) (x := y) rfl
  obtain ⟨ax, cx, ex⟩ := tx.form
  obtain ⟨ay, cy, ey⟩ := ty.form
  simp only [List.cons.injEq, and_true, true_and] at ex ey
  subst ex
  subst ey
  simp only [Nat.zero_mul, Nat.add_zero, Nat.one_mul] at x0 x1 x2 z0 z1 z2
  have qx : Hid (∀ wz, Below w.heap.size w wz → Calls Tryd.prog 33 #[.agg #[.int .i64 x.k, .int .i64 x.n, .slice ax x.ks.length cx], .bool true, .bool false] wz fun e w' => e = .returned (.string ⟨(Tp.wrap 2 x.level x.text).toArray⟩) ∧ Below wz.heap.size wz w') := fun wz hz => iha wz _ x false (tx.below hz) (by omega)
  have qy4 : Hid (∀ wz, Below w.heap.size w wz → Calls Tryd.prog 20 #[.agg #[.int .i64 y.k, .int .i64 y.n, .slice ay y.ks.length cy]] wz fun e w' => e = .returned (.string ⟨y.text.toArray⟩) ∧ Below wz.heap.size wz w') := fun wz hz => ih wz _ y (ty.below hz) (by omega)
  have qy5 : Hid (∀ wz, Below w.heap.size w wz → Calls Tryd.prog 33 #[.agg #[.int .i64 y.k, .int .i64 y.n, .slice ay y.ks.length cy], .bool true, .bool true] wz fun e w' => e = .returned (.string ⟨(Tp.wrap 3 y.level y.text).toArray⟩) ∧ Below wz.heap.size wz w') := fun wz hz => iha wz _ y true (ty.below hz) (by omega)
  have hwl : ∀ f g (s : List UInt8), (Tp.wrap f g s).length ≤ s.length + 2 := by intro f g s; unfold Tp.wrap; split <;> simp
  have w1 := hwl 2 x.level x.text
  have w2 := hwl 3 y.level y.text
  have U : Hid (∀ o1 wz, Below (w.alloc o1).heap.size (w.alloc o1) wz → wz.cell? ⟨g, o, none⟩ = some (.int .i64 x.k) ∧ wz.cell? ⟨g, o + 1, none⟩ = some (.int .i64 x.n) ∧ wz.cell? ⟨g, o + 2, none⟩ = some (.slice ax x.ks.length cx) ∧ wz.cell? ⟨g, o + 3, none⟩ = some (.int .i64 y.k) ∧ wz.cell? ⟨g, o + 3 + 1, none⟩ = some (.int .i64 y.n) ∧ wz.cell? ⟨g, o + 3 + 2, none⟩ = some (.slice ay y.ks.length cy)) := fun o1 wz hz => have hz := bl_tr (bl_alloc (Below.refl _ _) o1) hz; ⟨(hz.cell hgl).trans x0, (hz.cell hgl).trans x1, (hz.cell hgl).trans x2, (hz.cell hgl).trans z0, (hz.cell hgl).trans z1, (hz.cell hgl).trans z2⟩
  by_cases hk4 : k = 4
  · subst hk4
    have HH : Hid (Tp.text (.mk 4 n [x, y]) = Tp.wrap 2 x.level x.text ++ [32, 45, 62, 32] ++ y.text) := by
      show _ = _
      rw [Tp.text_two]; simp [Tp.wrap_one _ _ y.level_pos]
    have e1 : ¬ 9223372036854775807 < (Tp.wrap 2 x.level x.text).length + 4 := by omega
    have e2 : ¬ 9223372036854775807 < (Tp.wrap 2 x.level x.text).length + 4 + (y.text).length := by omega
    generalize Tp.wrap 2 x.level x.text = sx at HH qx e1 e2
    generalize y.text = sy at HH qy4 e1 e2
    obtain ⟨W1, hW1⟩ : ∃ W1 : World, w.alloc (.cells #[.int .i64 4, .int .i64 n, .slice (some ⟨g, o, none⟩) 2 c] 24) = W1 := ⟨_, rfl⟩
    have B1 : Hid (Below w.heap.size w W1) := by rw [← hW1]; exact bl_alloc (Below.refl _ _) _
    have X1 : Hid (Arr W1 w.heap.size 24 [.int .i64 4, .int .i64 n, .slice (some ⟨g, o, none⟩) 2 c]) := by rw [← hW1]; exact ⟨heap_alloc_at _ _⟩
    have ST : Hid (∀ wz, Below W1.heap.size W1 wz → wz.cell? ⟨w.heap.size, 2, none⟩ = some (.slice (some ⟨g, o, none⟩) 2 c) ∧ wz.cell? ⟨g, o, none⟩ = some (.int .i64 x.k) ∧ wz.cell? ⟨g, o + 1, none⟩ = some (.int .i64 x.n) ∧ wz.cell? ⟨g, o + 2, none⟩ = some (.slice ax x.ks.length cx) ∧ wz.cell? ⟨g, o + 3, none⟩ = some (.int .i64 y.k) ∧ wz.cell? ⟨g, o + 3 + 1, none⟩ = some (.int .i64 y.n) ∧ wz.cell? ⟨g, o + 3 + 2, none⟩ = some (.slice ay y.ks.length cy) ∧ Below W1.heap.size W1 wz) := by
      intro wz hz
      have hu := hz
      rw [← hW1] at hu
      obtain ⟨u0, u1, u2, u3, u4, u5⟩ := U.out _ wz hu
      exact ⟨(X1.out.stays hz).cell 2, u0, u1, u2, u3, u4, u5, hz⟩
    clear ih iha HL tx ty x0 x1 x2 z0 z1 z2 hz hgl hlen hlens hwl w1 w2 hk h1 h2 h3 h6 h7 h8 hn U
    have hcell := X1.out.cell
    go_enter Tryd.func20, Tryd.ntmps20
    go_wp2_with fail
    have hs0 : Hid _ := ST.out _ ((Below.refl _ _).drew)
    go_region_held (fun w' => w'.cell? ⟨w.heap.size, 2, none⟩ = some (.slice (some ⟨g, o, none⟩) 2 c) ∧ w'.cell? ⟨g, o, none⟩ = some (.int .i64 x.k) ∧ w'.cell? ⟨g, o + 1, none⟩ = some (.int .i64 x.n) ∧ w'.cell? ⟨g, o + 2, none⟩ = some (.slice ax x.ks.length cx) ∧ w'.cell? ⟨g, o + 3, none⟩ = some (.int .i64 y.k) ∧ w'.cell? ⟨g, o + 3 + 1, none⟩ = some (.int .i64 y.n) ∧ w'.cell? ⟨g, o + 3 + 2, none⟩ = some (.slice ay y.ks.length cy) ∧ Below W1.heap.size W1 w') (first | exact hs0.out | exact keep7 (by assumption) (by assumption)) (first | (go_at_call 33; refine (qx.out _ (bl_tr B1.out (belo7 (by assumption)))).mono ?_; rintro e wa ⟨rfl, ba⟩; clear qx) | (go_at_call 20; refine (qy4.out _ (bl_tr B1.out (belo7 (by assumption)))).mono ?_; rintro e wb ⟨rfl, bb⟩; clear qy4))
    all_goals go_wp2
    all_goals go_ret
    all_goals exact ⟨by rw [HH.out, ← ByteArray.mk_append_mk, ← ByteArray.mk_append_mk]; rfl, bl_tr B1.out (belo7 (by assumption))⟩
  obtain hk5 : k = 5 := by omega
  subst hk5
  have HH : Hid (Tp.text (.mk 5 n [x, y]) = Tp.wrap 2 x.level x.text ++ [32, 42, 32] ++ Tp.wrap 3 y.level y.text) := by
    show _ = _
    rw [Tp.text_two]; simp
  have e1 : ¬ 9223372036854775807 < (Tp.wrap 2 x.level x.text).length + 3 := by omega
  have e2 : ¬ 9223372036854775807 < (Tp.wrap 2 x.level x.text).length + 3 + (Tp.wrap 3 y.level y.text).length := by omega
  generalize Tp.wrap 2 x.level x.text = sx at HH qx e1 e2
  generalize Tp.wrap 3 y.level y.text = sy at HH qy5 e1 e2
  obtain ⟨W1, hW1⟩ : ∃ W1 : World, w.alloc (.cells #[.int .i64 5, .int .i64 n, .slice (some ⟨g, o, none⟩) 2 c] 24) = W1 := ⟨_, rfl⟩
  have B1 : Hid (Below w.heap.size w W1) := by rw [← hW1]; exact bl_alloc (Below.refl _ _) _
  have X1 : Hid (Arr W1 w.heap.size 24 [.int .i64 5, .int .i64 n, .slice (some ⟨g, o, none⟩) 2 c]) := by rw [← hW1]; exact ⟨heap_alloc_at _ _⟩
  have ST : Hid (∀ wz, Below W1.heap.size W1 wz → wz.cell? ⟨w.heap.size, 2, none⟩ = some (.slice (some ⟨g, o, none⟩) 2 c) ∧ wz.cell? ⟨g, o, none⟩ = some (.int .i64 x.k) ∧ wz.cell? ⟨g, o + 1, none⟩ = some (.int .i64 x.n) ∧ wz.cell? ⟨g, o + 2, none⟩ = some (.slice ax x.ks.length cx) ∧ wz.cell? ⟨g, o + 3, none⟩ = some (.int .i64 y.k) ∧ wz.cell? ⟨g, o + 3 + 1, none⟩ = some (.int .i64 y.n) ∧ wz.cell? ⟨g, o + 3 + 2, none⟩ = some (.slice ay y.ks.length cy) ∧ Below W1.heap.size W1 wz) := by
    intro wz hz
    have hu := hz
    rw [← hW1] at hu
    obtain ⟨u0, u1, u2, u3, u4, u5⟩ := U.out _ wz hu
    exact ⟨(X1.out.stays hz).cell 2, u0, u1, u2, u3, u4, u5, hz⟩
  clear ih iha HL tx ty x0 x1 x2 z0 z1 z2 hz hgl hlen hlens hwl w1 w2 hk h1 h2 h3 h6 h7 h8 hn U
  have hcell := X1.out.cell
  go_enter Tryd.func20, Tryd.ntmps20
  go_wp2_with fail
  have hs0 : Hid _ := ST.out _ ((Below.refl _ _).drew)
  go_region_held (fun w' => w'.cell? ⟨w.heap.size, 2, none⟩ = some (.slice (some ⟨g, o, none⟩) 2 c) ∧ w'.cell? ⟨g, o, none⟩ = some (.int .i64 x.k) ∧ w'.cell? ⟨g, o + 1, none⟩ = some (.int .i64 x.n) ∧ w'.cell? ⟨g, o + 2, none⟩ = some (.slice ax x.ks.length cx) ∧ w'.cell? ⟨g, o + 3, none⟩ = some (.int .i64 y.k) ∧ w'.cell? ⟨g, o + 3 + 1, none⟩ = some (.int .i64 y.n) ∧ w'.cell? ⟨g, o + 3 + 2, none⟩ = some (.slice ay y.ks.length cy) ∧ Below W1.heap.size W1 w') (first | exact hs0.out | exact keep7 (by assumption) (by assumption)) (first | (go_at_call 33; refine (qx.out _ (bl_tr B1.out (belo7 (by assumption)))).mono ?_; rintro e wa ⟨rfl, ba⟩; clear qx) | (go_at_call 33; refine (qy5.out _ (bl_tr B1.out (belo7 (by assumption)))).mono ?_; rintro e wb ⟨rfl, bb⟩; clear qy5))
  all_goals go_wp2
  all_goals go_ret
  all_goals exact ⟨by rw [HH.out, ← ByteArray.mk_append_mk, ← ByteArray.mk_append_mk]; rfl, bl_tr B1.out (belo7 (by assumption))⟩
theorem refText_any : ∀ n, RTextOf n
  | 0 => fun w vs t hT _ => hT.elim
  | n + 1 => refText_step n (refText_any n)
end Go.Proofs.YtgnmgooljcgfiaaDoor
