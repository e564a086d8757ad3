/- The writer: two, at, write; Text. -/
import Derived.Test.YtgnmgooljcgfiaaDoorTpT2
namespace Go.Proofs.YtgnmgooljcgfiaaDoor
open Go.RowKit
set_option linter.unusedVariables false
set_option linter.unusedSimpArgs false

def WriteOf (W : World) (n : Nat) : Prop := ∀ (b : Nat) (l : List UInt8) (w : World) (vs : List Value) (t : Tp), Ts W b l w → TAt W Any n vs t → l.length + t.text.length + 100 ≤ 140737488355328 → Calls Tryd.prog 29 #[.pointer (some ⟨b, 0, none⟩), .agg vs.toArray] w (Wrote W b (l ++ t.text) w (.tuple #[]))
def AtOf (W : World) (n : Nat) : Prop := ∀ (b : Nat) (l : List UInt8) (w : World) (asked : Int) (vs : List Value) (t : Tp), Ts W b l w → TAt W Any n vs t → l.length + (Tp.wrap asked t.level t.text).length + 100 ≤ 140737488355328 → Calls Tryd.prog 52 #[.pointer (some ⟨b, 0, none⟩), .int .i64 asked, .agg vs.toArray] w (Wrote W b (l ++ Tp.wrap asked t.level t.text) w (.tuple #[]))

set_option maxHeartbeats 1000000 in
set_option maxRecDepth 100000 in
theorem at_step (W : World) (n : Nat) (ih : WriteOf W n) : AtOf W n := by
  intro b l w asked vs t h hT hl
  have hm : t.ks.length ≤ maxLen := by
    cases n with
    | zero => exact hT.elim
    | succ n => obtain ⟨v, -, -, -, h4⟩ := hT.open_; obtain ⟨a, c, -, hm⟩ := h4.form; exact hm
  have hBw := h.bl.size
  have hlt := h.lt
  obtain ⟨a, c, hvs⟩ := hT.form
  have hw : Hid (∀ (l' : List UInt8) (w' : World), Ts W b l' w' → l'.length + t.text.length + 100 ≤ 140737488355328 → Calls Tryd.prog 29 #[.pointer (some ⟨b, 0, none⟩), .agg #[.int .i64 t.k, .int .i64 t.n, .slice a t.ks.length c]] w' (Wrote W b (l' ++ t.text) w' (.tuple #[]))) := fun l' w' h' hl' => by
    have := ih b l' w' vs t h' hT hl'
    rw [hvs] at this
    exact this
  have hlv : Hid (∀ o, Calls Tryd.prog 62 #[.agg #[.int .i64 t.k, .int .i64 t.n, .slice a t.ks.length c]] (w.alloc o) fun e w' => e = .returned (.int .i64 t.level) ∧ Below (w.alloc o).heap.size (w.alloc o) w') := fun o => level_any _ t a c hm
  subst hvs
  have hbx : Hid (Arr (w.alloc (.cells #[.int .i64 t.k, .int .i64 t.n, .slice a t.ks.length c] 24)) w.heap.size 24 [.int .i64 t.k, .int .i64 t.n, .slice a t.ks.length c]) := ⟨heap_alloc_at _ _⟩
  have HT : Hid (Ts W b l w) := h
  by_cases hd : asked ≤ t.level
  · have hwr : Tp.wrap asked t.level t.text = t.text := by unfold Tp.wrap; rw [if_pos hd]
    rw [hwr] at hl ⊢
    have HL : Hid (l.length + t.text.length + 100 ≤ 140737488355328) := hl
    have hd2 : decide (asked ≤ t.level) = true := decide_eq_true hd
    clear hT ih hl hwr h hm
    go_enter Tryd.func52, Tryd.ntmps52
    go_wp2_with (first | (go_at_call 62; refine (hlv.out _).mono ?_; rintro e w2 ⟨rfl, hb2⟩; have HX : Hid _ := hbx.out.stays hb2; have k0 := HX.out.cell; have HB : Hid (Below w.heap.size w w2) := bl_tr (bl_alloc (Below.refl _ _) _) hb2; clear hb2) | (go_at_call 29; refine (hw.out _ _ (HT.out.stays HB.out) HL.out).mono ?_; rintro e w3 ⟨rfl, h3, e3⟩))
    go_end0
    exact ⟨rfl, h3, (Eb.of_below HB.out hBw).trans e3⟩
  · have hwr : Tp.wrap asked t.level t.text = [40] ++ t.text ++ [41] := by unfold Tp.wrap; rw [if_neg hd]
    rw [hwr] at hl ⊢
    have hd2 : decide (asked ≤ t.level) = false := decide_eq_false hd
    have hq1 : Hid (∀ w', Ts W b l w' → Calls Tryd.prog 43 #[.pointer (some ⟨b, 0, none⟩), .string ⟨#[40]⟩] w' (Wrote W b (l ++ [40]) w' (.tuple #[.int .i64 1, .nilIface]))) := fun w' h' => ws W b l ⟨#[40]⟩ w' h' (show _ + 1 ≤ _ by simp at hl; omega)
    have hq2 : Hid (∀ w', Ts W b (l ++ [40]) w' → Calls Tryd.prog 29 #[.pointer (some ⟨b, 0, none⟩), .agg #[.int .i64 t.k, .int .i64 t.n, .slice a t.ks.length c]] w' (Wrote W b (l ++ [40] ++ t.text) w' (.tuple #[]))) := fun w' h' => hw.out _ w' h' (by simp at hl ⊢; omega)
    have hq3 : Hid (∀ w', Ts W b (l ++ [40] ++ t.text) w' → Calls Tryd.prog 43 #[.pointer (some ⟨b, 0, none⟩), .string ⟨#[41]⟩] w' (Wrote W b (l ++ [40] ++ t.text ++ [41]) w' (.tuple #[.int .i64 1, .nilIface]))) := fun w' h' => ws W b _ ⟨#[41]⟩ w' h' (show _ + 1 ≤ _ by simp at hl ⊢; omega)
    clear hT ih hl hwr h hm hw
    go_enter Tryd.func52, Tryd.ntmps52
    go_wp2_with (first | (go_at_call 62; refine (hlv.out _).mono ?_; rintro e w2 ⟨rfl, hb2⟩; have HX : Hid _ := hbx.out.stays hb2; have HB : Hid (Below w.heap.size w w2) := bl_tr (bl_alloc (Below.refl _ _) _) hb2; clear hb2) | (go_at_call 43; refine (hq1.out _ (HT.out.stays HB.out)).mono ?_; rintro e w3 ⟨rfl, h3, e3⟩; have HY : Hid _ := e3.arr HX.out (by decide) (by omega); have k0 := HY.out.cell; clear hq1) | (go_at_call 29; refine (hq2.out _ h3).mono ?_; rintro e w4 ⟨rfl, h4, e4⟩) | (go_at_call 43; refine (hq3.out _ h4).mono ?_; rintro e w5 ⟨rfl, h5, e5⟩))
    go_end0
    exact ⟨rfl, by simpa using h5, (((Eb.of_below HB.out hBw).trans e3).trans e4).trans e5⟩
def Tp.twoText (ks : List Tp) (mark : List UInt8) (f s : Int) : List UInt8 := match ks with
  | [a, b] => Tp.wrap f a.level a.text ++ mark ++ Tp.wrap s b.level b.text
  | _ => [63]

set_option maxHeartbeats 1000000 in
set_option maxRecDepth 100000 in
theorem two_step (W : World) (n : Nat) (ih : AtOf W n) (b : Nat) (l : List UInt8) (w : World) (v : Value) (ks : List Tp) (mark : ByteArray) (f s : Int) (h : Ts W b l w) (hT : TAtL W Any n v ks) (hl : l.length + (Tp.twoText ks mark.data.toList f s).length + 100 ≤ 140737488355328) :
    Calls Tryd.prog 44 #[.pointer (some ⟨b, 0, none⟩), v, .string mark, .int .i64 f, .int .i64 s] w (Wrote W b (l ++ Tp.twoText ks mark.data.toList f s) w (.tuple #[])) := by
  obtain ⟨a, c, rfl, hm⟩ := hT.form
  unfold maxLen at hm
  by_cases h2 : ks.length = 2
  · match ks, h2 with
    | [x, y], _ =>
      obtain ⟨g, o, rfl⟩ : ∃ b o, a = some ⟨b, o, none⟩ := by
        rcases hT with ⟨b, o, c, hv, -⟩ | ⟨h0, -⟩
        · injection hv with e1 e2 e3; exact ⟨b, o, e1⟩
        · cases h0
      obtain ⟨vx, tx, x0, x1, x2, -, hbl⟩ := hT.elem (i := 0) (x := x) rfl
      obtain ⟨vy, ty, y0, y1, y2, -, -⟩ := hT.elem (i := 1) (x := y) rfl
      obtain ⟨ax, cx, ex⟩ := tx.form
      simp only [List.cons.injEq, and_true, true_and] at ex
      subst ex
      obtain ⟨ay, cy, ey⟩ := ty.form
      simp only [List.cons.injEq, and_true, true_and] at ey
      subst ey
      have tt : Tp.twoText [x, y] mark.data.toList f s = Tp.wrap f x.level x.text ++ mark.data.toList ++ Tp.wrap s y.level y.text := rfl
      rw [tt] at hl ⊢
      have hls : l.length + (Tp.wrap f x.level x.text).length + mark.size + (Tp.wrap s y.level y.text).length + 100 ≤ 140737488355328 := by rw [List.length_append, List.length_append, size_data] at hl; omega
      have q1 : Hid (Calls Tryd.prog 52 #[.pointer (some ⟨b, 0, none⟩), .int .i64 f, .agg #[.int .i64 x.k, .int .i64 x.n, .slice ax x.ks.length cx]] w (Wrote W b (l ++ Tp.wrap f x.level x.text) w (.tuple #[]))) := ih b l w f _ x h tx (by omega)
      have q2 : Hid (∀ w2, Ts W b (l ++ Tp.wrap f x.level x.text) w2 → Calls Tryd.prog 43 #[.pointer (some ⟨b, 0, none⟩), .string mark] w2 (Wrote W b (l ++ Tp.wrap f x.level x.text ++ mark.data.toList) w2 (.tuple #[.int .i64 mark.size, .nilIface]))) := fun w2 h2 => ws W b _ mark w2 h2 (by rw [List.length_append]; omega)
      have q3 : Hid (∀ w3, Ts W b (l ++ Tp.wrap f x.level x.text ++ mark.data.toList) w3 → Calls Tryd.prog 52 #[.pointer (some ⟨b, 0, none⟩), .int .i64 s, .agg #[.int .i64 y.k, .int .i64 y.n, .slice ay y.ks.length cy]] w3 (Wrote W b (l ++ Tp.wrap f x.level x.text ++ mark.data.toList ++ Tp.wrap s y.level y.text) w3 (.tuple #[]))) := fun w3 h3 => ih b _ w3 s _ y h3 ty (by rw [List.length_append, List.length_append, size_data]; omega)
      have c0 := (h.bl.cell (p := ⟨g, o, none⟩) hbl).trans x0
      have c1 := (h.bl.cell (p := ⟨g, o + 1, none⟩) hbl).trans (by simpa using x1)
      have c2 := (h.bl.cell (p := ⟨g, o + 2, none⟩) hbl).trans (by simpa using x2)
      have Y0 : Hid (∀ w3, Below W.heap.size W w3 → w3.cell? ⟨g, o + 3, none⟩ = some (.int .i64 y.k)) := fun w3 h3 => (h3.cell (p := ⟨g, o + 3, none⟩) hbl).trans (by simpa using y0)
      have Y1 : Hid (∀ w3, Below W.heap.size W w3 → w3.cell? ⟨g, o + 3 + 1, none⟩ = some (.int .i64 y.n)) := fun w3 h3 => (h3.cell (p := ⟨g, o + 3 + 1, none⟩) hbl).trans (by simpa using y1)
      have Y2 : Hid (∀ w3, Below W.heap.size W w3 → w3.cell? ⟨g, o + 3 + 2, none⟩ = some (.slice ay y.ks.length cy)) := fun w3 h3 => (h3.cell (p := ⟨g, o + 3 + 2, none⟩) hbl).trans (by simpa using y2)
      clear hT x0 x1 x2 y0 y1 y2 tx ty ih hl hls tt h
      go_enter Tryd.func44, Tryd.ntmps44
      go_wp2_with (first | (go_at_call 52; refine q1.out.mono ?_; rintro e w2 ⟨rfl, h2, e2⟩; clear q1) | (go_at_call 43; refine (q2.out _ h2).mono ?_; rintro e w3 ⟨rfl, h3, e3⟩; have d0 := Y0.out _ h3.bl; have d1 := Y1.out _ h3.bl; have d2 := Y2.out _ h3.bl; clear q2) | (go_at_call 52; refine (q3.out _ h3).mono ?_; rintro e w4 ⟨rfl, h4, e4⟩; clear q3))
      go_end0
      exact ⟨rfl, by simpa using h4, (e2.trans e3).trans e4⟩
  · have tt : Tp.twoText ks mark.data.toList f s = [63] := by
      unfold Tp.twoText
      split
      · simp at h2
      · rfl
    rw [tt] at hl ⊢
    have hne : ((ks.length : Int) != 2) = true := by simp; omega
    have q1 : Hid (Calls Tryd.prog 43 #[.pointer (some ⟨b, 0, none⟩), .string ⟨#[63]⟩] w (Wrote W b (l ++ [63]) w (.tuple #[.int .i64 1, .nilIface]))) := ws W b l ⟨#[63]⟩ w h (show _ + 1 ≤ _ by simp at hl; omega)
    clear hT ih h tt h2 hl
    go_enter Tryd.func44, Tryd.ntmps44
    go_wp2_with (first | (go_at_call 43; refine q1.out.mono ?_; rintro e w2 ⟨rfl, h2, e2⟩; clear q1))
    go_end0
    exact ⟨rfl, h2, e2⟩
end Go.Proofs.YtgnmgooljcgfiaaDoor
