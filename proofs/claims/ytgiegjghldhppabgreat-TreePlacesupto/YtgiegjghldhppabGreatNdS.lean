/- What the program's Same and its kin come to: being the same data, but for places. -/
import Derived.Test.YtgiegjghldhppabGreatNdE
namespace Go.Proofs.YtgiegjghldhppabGreat
open Go.RowKit
set_option linter.unusedVariables false

abbrev Any : Nat → Prop := fun _ => True
noncomputable def Nd.eq (a b : Nd) : Bool := @decide (a = b) (Classical.propDecidable _)
noncomputable def Nd.eqL (a b : List Nd) : Bool := @decide (a = b) (Classical.propDecidable _)
theorem Nd.eq_true {a b : Nd} : Nd.eq a b = true ↔ a = b := by unfold Nd.eq; exact @decide_eq_true_iff _ (Classical.propDecidable _)
theorem Nd.eqL_true {a b : List Nd} : Nd.eqL a b = true ↔ a = b := by unfold Nd.eqL; exact @decide_eq_true_iff _ (Classical.propDecidable _)
theorem Nd.eqL_nil : Nd.eqL [] [] = true := Nd.eqL_true.2 rfl
theorem Nd.eqL_cons (a b : Nd) (xs ys : List Nd) : Nd.eqL (a :: xs) (b :: ys) = (Nd.eq a b && Nd.eqL xs ys) := by
  rw [Bool.eq_iff_iff, Bool.and_eq_true, Nd.eqL_true, Nd.eqL_true, Nd.eq_true, List.cons.injEq]
theorem Nd.eqL_len {xs ys : List Nd} (h : xs.length ≠ ys.length) : Nd.eqL xs ys = false := by
  rw [Bool.eq_false_iff]
  intro e
  rw [Nd.eqL_true] at e
  exact h (by rw [e])
theorem Nd.eqL_at {xs ys : List Nd} {k : Nat} {x y : Nd} (hx : xs[k]? = some x) (hy : ys[k]? = some y) : Nd.eqL (xs.drop k) (ys.drop k) = (Nd.eq x y && Nd.eqL (xs.drop (k + 1)) (ys.drop (k + 1))) := by
  obtain ⟨h1, e1⟩ := List.getElem?_eq_some_iff.1 hx
  obtain ⟨h2, e2⟩ := List.getElem?_eq_some_iff.1 hy
  rw [List.drop_eq_getElem_cons h1, List.drop_eq_getElem_cons h2, e1, e2, Nd.eqL_cons]

theorem len2 {l : List Value} (h : l.length = 2) : ∃ a b, l = [a, b] := by match l, h with | [a, b], _ => exact ⟨a, b, rfl⟩
theorem len4 {l : List Value} (h : l.length = 4) : ∃ a b c d, l = [a, b, c, d] := by match l, h with | [a, b, c, d], _ => exact ⟨a, b, c, d, rfl⟩
theorem len5 {l : List Value} (h : l.length = 5) : ∃ a b c d e, l = [a, b, c, d, e] := by match l, h with | [a, b, c, d, e], _ => exact ⟨a, b, c, d, e, rfl⟩
theorem len6 {l : List Value} (h : l.length = 6) : ∃ a b c d e f, l = [a, b, c, d, e, f] := by match l, h with | [a, b, c, d, e, f], _ => exact ⟨a, b, c, d, e, f, rfl⟩
theorem len8 {l : List Value} (h : l.length = 8) : ∃ a b c d e f g i, l = [a, b, c, d, e, f, g, i] := by match l, h with | [a, b, c, d, e, f, g, i], _ => exact ⟨a, b, c, d, e, f, g, i, rfl⟩
theorem len9 {l : List Value} (h : l.length = 9) : ∃ a b c d e f g i j, l = [a, b, c, d, e, f, g, i, j] := by match l, h with | [a, b, c, d, e, f, g, i, j], _ => exact ⟨a, b, c, d, e, f, g, i, j, rfl⟩
theorem bl_alloc {w w1 : World} (h : Below w.heap.size w w1) (o : Obj) : Below w.heap.size w (w1.alloc o) := h.alloc h.size o
theorem bl_tr {w w1 w2 : World} (h : Below w.heap.size w w1) (h2 : Below w1.heap.size w1 w2) : Below w.heap.size w w2 := h.trans (h2.mono h.size)
theorem bl_drewN (w : World) (n : Nat) : Below w.heap.size w (w.drewN n) := by
  induction n with
  | zero => exact Below.refl _ _
  | succ k ih => exact ih.drew
/-- Two boxes, of the two arguments, behind what was there. -/
structure Fr (w wc : World) (va vb : List Value) : Prop where
  bl : Below w.heap.size w wc
  sz : w.heap.size + 1 < wc.heap.size
  a : ∀ (j : Nat) v, va[j]? = some v → wc.cell? ⟨w.heap.size, j, none⟩ = some v
  b : ∀ (j : Nat) v, vb[j]? = some v → wc.cell? ⟨w.heap.size + 1, j, none⟩ = some v
theorem Fr.start (w : World) (va vb : List Value) (t : TypeId) : Fr w ((w.alloc (.cells va.toArray t)).alloc (.cells vb.toArray t)) va vb := by
  refine ⟨bl_alloc (bl_alloc (Below.refl _ _) _) _, by simp, fun j v hv => ?_, fun j v hv => ?_⟩
  · rw [World.cell?_alloc2_first]
    simpa using hv
  · rw [World.cell?_alloc_at _ _ _ _ (by simp)]
    simpa using hv
theorem Fr.step {w wc w1 : World} {va vb : List Value} (h : Fr w wc va vb) (hb : Below wc.heap.size wc w1) : Fr w w1 va vb :=
  ⟨bl_tr h.bl hb, Nat.lt_of_lt_of_le h.sz hb.size, fun j v hv => (hb.cell (show w.heap.size < _ by have := h.sz; omega)).trans (h.a j v hv), fun j v hv => (hb.cell (show w.heap.size + 1 < _ from h.sz)).trans (h.b j v hv)⟩
theorem Fr.atl {w wc : World} {va vb : List Value} (h : Fr w wc va vb) {n s : Nat} {v : Value} {l : List Nd} (hl : AtL w Any n s v l) : AtL wc Any n s v l := hl.below h.bl
theorem Fr.tx {w wc : World} {va vb : List Value} (h : Fr w wc va vb) {v : Value} {l : List ByteArray} (hl : Tx w Any v l) : Strs wc v l := (hl.move (Keeps.of_below h.bl) (fun _ h => h)).strs
/-- What the contract of one of them says. -/
def SameOf (f : FuncId) (n s : Nat) : Prop := ∀ (w : World) (va vb : List Value) (A B : Nd), At w Any n s va A → At w Any n s vb B →
  Calls Tryz.prog f #[.agg va.toArray, .agg vb.toArray] w fun e w' => e = .returned (.bool (Nd.eq A B)) ∧ Below w.heap.size w w'
def SameLOf (f : FuncId) (g : Value) (n s : Nat) : Prop := ∀ (w : World) (v1 v2 : Value) (xs ys : List Nd), AtL w Any n s v1 xs → AtL w Any n s v2 ys →
  Calls Tryz.prog f #[v1, v2, g] w fun e w' => e = .returned (.bool (Nd.eqL xs ys)) ∧ Below w.heap.size w w'

theorem eqStrs_b (a b : Value) (xs ys : List ByteArray) (w : World) (ha : Strs w a xs) (hb : Strs w b ys) (hx : xs.length ≤ maxLen) (hy : ys.length ≤ maxLen) :
    Calls Tryz.prog 36 #[a, b] w fun e w' => e = .returned (.bool (decide (xs = ys))) ∧ Below w.heap.size w w' :=
  (eqStrs_any a b xs ys w ha hb hx hy).mono fun e w' ⟨h1, n, h2⟩ => ⟨h1, by rw [h2]; exact bl_drewN _ _⟩

set_option maxHeartbeats 2000000 in
set_option maxRecDepth 100000 in
theorem eqFunc0 (n : Nat) (ih : SameOf 38 n 0) : SameLOf 37 (.func (.func 38) #[] #[]) n 0 := by
  intro w v1 v2 xs ys h1 h2
  obtain ⟨a1, c1, e1, hx⟩ := h1.form
  obtain ⟨a2, c2, e2, hy⟩ := h2.form
  unfold maxLen at hx hy
  by_cases hl : xs.length = ys.length
  · by_cases h0 : ys = []
    · subst h0
      obtain rfl : xs = [] := List.eq_nil_of_length_eq_zero (by simpa using hl)
      subst e1; subst e2
      clear h1 h2
      go_enter Tryz.func37, Tryz.ntmps37
      go_wp2
      go_loopw [17] (fun v wr => v = .int .i64 0 ∧ wr = w) (fun _ _ => 0)
      case atStart => exact ⟨rfl, rfl⟩
      case round =>
        obtain ⟨rfl, rfl⟩ := hrel
        go_wp2
        go_ret
        exact ⟨ret_bool Nd.eqL_nil.symm, Below.refl _ _⟩
    · have h0x : ¬ xs = [] := fun e => h0 (List.eq_nil_of_length_eq_zero (by rw [← hl, e]; rfl))
      clear e1 e2
      obtain ⟨g1, o1, c1, rfl, -, -, -, k1⟩ := h1.resolve_right (fun h => h0x h.1)
      obtain ⟨g2, o2, c2, rfl, -, -, -, k2⟩ := h2.resolve_right (fun h => h0 h.1)
      have HL : Hid (xs.length = ys.length) := hl
      have hw2 : ys.length = xs.length := hl.symm
      rw [hw2]
      clear h1 h2 hl h0 h0x hy hw2
      go_enter Tryz.func37, Tryz.ntmps37
      go_wp2
      go_loopw [17] (fun v wr => ∃ k : Nat, v = .int .i64 k ∧ k ≤ xs.length ∧ Hid (Nd.eqL xs ys = Nd.eqL (xs.drop k) (ys.drop k)) ∧ Below w.heap.size w wr) (fun v _ => xs.length - (intOf v).toNat)
      case atStart => exact ⟨0, rfl, Nat.zero_le _, rfl, Below.refl _ _⟩
      case round =>
        obtain ⟨k, rfl, hk, hH, hB⟩ := hrel
        by_cases hlt : k < xs.length
        · obtain ⟨x, hxk⟩ : ∃ x, xs[k]? = some x := ⟨_, List.getElem?_eq_getElem hlt⟩
          obtain ⟨y, hyk⟩ : ∃ y, ys[k]? = some y := ⟨_, List.getElem?_eq_getElem (by rw [← HL.out]; exact hlt)⟩
          obtain ⟨va, ha, ca, ta⟩ := k1 k x hxk
          obtain ⟨vb, hb, cb, tb⟩ := k2 k y hyk
          have cb1 : ∀ o, Cells (wr.alloc o) g2 (o2 + k * 4) vb := fun o => (cb.move trivial (Keeps.of_below (K := Any) hB)).move trivial (Keeps.of_below (K := Any) (bl_alloc (Below.refl _ _) o))
          replace ca := ca.move trivial (Keeps.of_below (K := Any) hB)
          have HQ : Hid (∀ w', Below w.heap.size w w' → Calls Tryz.prog 38 #[.agg va.toArray, .agg vb.toArray] w' fun e w'' => e = .returned (.bool (Nd.eq x y)) ∧ Below w'.heap.size w' w'') := fun w' h' => ih w' va vb x y (At.move (Keeps.of_below h') (fun _ h => h) _ _ _ _ ta) (At.move (Keeps.of_below h') (fun _ h => h) _ _ _ _ tb)
          obtain ⟨i0x, s1x, a2x, n2x, c2x, d0x, m0x, e0x, rfl⟩ := At.ty_form ta
          obtain ⟨i0y, s1y, a2y, n2y, c2y, d0y, m0y, e0y, rfl⟩ := At.ty_form tb
          clear ta tb ha hb
          have x0 : wr.cell? ⟨g1, o1 + k * 4, none⟩ = some (.int .i64 i0x) := ca 0 _ rfl
          have z0 : ∀ o, (wr.alloc o).cell? ⟨g2, o2 + k * 4, none⟩ = some (.int .i64 i0y) := fun o => cb1 o 0 _ rfl
          have x1 : wr.cell? ⟨g1, o1 + k * 4 + 1, none⟩ = some (.string s1x) := ca 1 _ rfl
          have z1 : ∀ o, (wr.alloc o).cell? ⟨g2, o2 + k * 4 + 1, none⟩ = some (.string s1y) := fun o => cb1 o 1 _ rfl
          have x2 : wr.cell? ⟨g1, o1 + k * 4 + 2, none⟩ = some (.slice a2x n2x c2x) := ca 2 _ rfl
          have z2 : ∀ o, (wr.alloc o).cell? ⟨g2, o2 + k * 4 + 2, none⟩ = some (.slice a2y n2y c2y) := fun o => cb1 o 2 _ rfl
          have x3 : wr.cell? ⟨g1, o1 + k * 4 + 3, none⟩ = some (.slice d0x m0x e0x) := ca 3 _ rfl
          have z3 : ∀ o, (wr.alloc o).cell? ⟨g2, o2 + k * 4 + 3, none⟩ = some (.slice d0y m0y e0y) := fun o => cb1 o 3 _ rfl
          clear ca cb1 cb
          have hH2 := hH.out
          rw [Nd.eqL_at hxk hyk] at hH2
          clear hH hxk hyk k1 k2
          cases he : Nd.eq x y with
          | true =>
            rw [he, Bool.true_and] at hH2
            have HX : Hid (Nd.eqL xs ys = Nd.eqL (xs.drop (k + 1)) (ys.drop (k + 1))) := hH2
            rw [he] at HQ
            clear hH2 he
            go_wp2_with (go_at_call 38; refine (HQ.out _ (bl_alloc (bl_alloc hB _) _)).mono ?_; rintro e w2 ⟨rfl, hb2⟩)
            go_roundw
            case rel => exact ⟨k + 1, by go_num, by omega, HX, bl_tr (bl_alloc (bl_alloc hB _) _) hb2⟩
            case measure => simp [intOf]; omega
          | false =>
            rw [he, Bool.false_and] at hH2
            have HX : Hid (Nd.eqL xs ys = false) := hH2
            rw [he] at HQ
            clear hH2 he
            go_wp2_with (go_at_call 38; refine (HQ.out _ (bl_alloc (bl_alloc hB _) _)).mono ?_; rintro e w2 ⟨rfl, hb2⟩)
            go_ret
            exact ⟨ret_bool HX.out.symm, bl_tr (bl_alloc (bl_alloc hB _) _) hb2⟩
        · have HX : Hid (Nd.eqL xs ys = true) := by
            show _ = _
            rw [hH.out, List.drop_eq_nil_of_le (by omega), List.drop_eq_nil_of_le (by have := HL.out; omega)]; exact Nd.eqL_nil
          clear hH k1 k2
          go_wp2
          go_ret
          exact ⟨ret_bool HX.out.symm, hB⟩
  · have H : Hid (Nd.eqL xs ys = false) := Nd.eqL_len hl
    subst e1; subst e2
    have hl2 : ¬ ((xs.length : Int) = (ys.length : Int)) := by omega
    clear h1 h2 hl
    go_enter Tryz.func37, Tryz.ntmps37
    go_wp2
    go_ret
    exact ⟨ret_bool H.out.symm, Below.refl _ _⟩

set_option maxHeartbeats 2000000 in
set_option maxRecDepth 100000 in
theorem eqFunc1 (n : Nat) (ih : SameOf 72 n 1) : SameLOf 71 (.func (.func 72) #[] #[]) n 1 := by
  intro w v1 v2 xs ys h1 h2
  obtain ⟨a1, c1, e1, hx⟩ := h1.form
  obtain ⟨a2, c2, e2, hy⟩ := h2.form
  unfold maxLen at hx hy
  by_cases hl : xs.length = ys.length
  · by_cases h0 : ys = []
    · subst h0
      obtain rfl : xs = [] := List.eq_nil_of_length_eq_zero (by simpa using hl)
      subst e1; subst e2
      clear h1 h2
      go_enter Tryz.func71, Tryz.ntmps71
      go_wp2
      go_loopw [17] (fun v wr => v = .int .i64 0 ∧ wr = w) (fun _ _ => 0)
      case atStart => exact ⟨rfl, rfl⟩
      case round =>
        obtain ⟨rfl, rfl⟩ := hrel
        go_wp2
        go_ret
        exact ⟨ret_bool Nd.eqL_nil.symm, Below.refl _ _⟩
    · have h0x : ¬ xs = [] := fun e => h0 (List.eq_nil_of_length_eq_zero (by rw [← hl, e]; rfl))
      clear e1 e2
      obtain ⟨g1, o1, c1, rfl, -, -, -, k1⟩ := h1.resolve_right (fun h => h0x h.1)
      obtain ⟨g2, o2, c2, rfl, -, -, -, k2⟩ := h2.resolve_right (fun h => h0 h.1)
      have HL : Hid (xs.length = ys.length) := hl
      have hw2 : ys.length = xs.length := hl.symm
      rw [hw2]
      clear h1 h2 hl h0 h0x hy hw2
      go_enter Tryz.func71, Tryz.ntmps71
      go_wp2
      go_loopw [17] (fun v wr => ∃ k : Nat, v = .int .i64 k ∧ k ≤ xs.length ∧ Hid (Nd.eqL xs ys = Nd.eqL (xs.drop k) (ys.drop k)) ∧ Below w.heap.size w wr) (fun v _ => xs.length - (intOf v).toNat)
      case atStart => exact ⟨0, rfl, Nat.zero_le _, rfl, Below.refl _ _⟩
      case round =>
        obtain ⟨k, rfl, hk, hH, hB⟩ := hrel
        by_cases hlt : k < xs.length
        · obtain ⟨x, hxk⟩ : ∃ x, xs[k]? = some x := ⟨_, List.getElem?_eq_getElem hlt⟩
          obtain ⟨y, hyk⟩ : ∃ y, ys[k]? = some y := ⟨_, List.getElem?_eq_getElem (by rw [← HL.out]; exact hlt)⟩
          obtain ⟨va, ha, ca, ta⟩ := k1 k x hxk
          obtain ⟨vb, hb, cb, tb⟩ := k2 k y hyk
          have cb1 : ∀ o, Cells (wr.alloc o) g2 (o2 + k * 5) vb := fun o => (cb.move trivial (Keeps.of_below (K := Any) hB)).move trivial (Keeps.of_below (K := Any) (bl_alloc (Below.refl _ _) o))
          replace ca := ca.move trivial (Keeps.of_below (K := Any) hB)
          have HQ : Hid (∀ w', Below w.heap.size w w' → Calls Tryz.prog 72 #[.agg va.toArray, .agg vb.toArray] w' fun e w'' => e = .returned (.bool (Nd.eq x y)) ∧ Below w'.heap.size w' w'') := fun w' h' => ih w' va vb x y (At.move (Keeps.of_below h') (fun _ h => h) _ _ _ _ ta) (At.move (Keeps.of_below h') (fun _ h => h) _ _ _ _ tb)
          obtain ⟨i0x, s1x, a2x, n2x, c2x, i3x, d0x, m0x, e0x, rfl⟩ := At.pat_form ta
          obtain ⟨i0y, s1y, a2y, n2y, c2y, i3y, d0y, m0y, e0y, rfl⟩ := At.pat_form tb
          clear ta tb ha hb
          have x0 : wr.cell? ⟨g1, o1 + k * 5, none⟩ = some (.int .i64 i0x) := ca 0 _ rfl
          have z0 : ∀ o, (wr.alloc o).cell? ⟨g2, o2 + k * 5, none⟩ = some (.int .i64 i0y) := fun o => cb1 o 0 _ rfl
          have x1 : wr.cell? ⟨g1, o1 + k * 5 + 1, none⟩ = some (.string s1x) := ca 1 _ rfl
          have z1 : ∀ o, (wr.alloc o).cell? ⟨g2, o2 + k * 5 + 1, none⟩ = some (.string s1y) := fun o => cb1 o 1 _ rfl
          have x2 : wr.cell? ⟨g1, o1 + k * 5 + 2, none⟩ = some (.slice a2x n2x c2x) := ca 2 _ rfl
          have z2 : ∀ o, (wr.alloc o).cell? ⟨g2, o2 + k * 5 + 2, none⟩ = some (.slice a2y n2y c2y) := fun o => cb1 o 2 _ rfl
          have x3 : wr.cell? ⟨g1, o1 + k * 5 + 3, none⟩ = some (.int .i64 i3x) := ca 3 _ rfl
          have z3 : ∀ o, (wr.alloc o).cell? ⟨g2, o2 + k * 5 + 3, none⟩ = some (.int .i64 i3y) := fun o => cb1 o 3 _ rfl
          have x4 : wr.cell? ⟨g1, o1 + k * 5 + 4, none⟩ = some (.slice d0x m0x e0x) := ca 4 _ rfl
          have z4 : ∀ o, (wr.alloc o).cell? ⟨g2, o2 + k * 5 + 4, none⟩ = some (.slice d0y m0y e0y) := fun o => cb1 o 4 _ rfl
          clear ca cb1 cb
          have hH2 := hH.out
          rw [Nd.eqL_at hxk hyk] at hH2
          clear hH hxk hyk k1 k2
          cases he : Nd.eq x y with
          | true =>
            rw [he, Bool.true_and] at hH2
            have HX : Hid (Nd.eqL xs ys = Nd.eqL (xs.drop (k + 1)) (ys.drop (k + 1))) := hH2
            rw [he] at HQ
            clear hH2 he
            go_wp2_with (go_at_call 72; refine (HQ.out _ (bl_alloc (bl_alloc hB _) _)).mono ?_; rintro e w2 ⟨rfl, hb2⟩)
            go_roundw
            case rel => exact ⟨k + 1, by go_num, by omega, HX, bl_tr (bl_alloc (bl_alloc hB _) _) hb2⟩
            case measure => simp [intOf]; omega
          | false =>
            rw [he, Bool.false_and] at hH2
            have HX : Hid (Nd.eqL xs ys = false) := hH2
            rw [he] at HQ
            clear hH2 he
            go_wp2_with (go_at_call 72; refine (HQ.out _ (bl_alloc (bl_alloc hB _) _)).mono ?_; rintro e w2 ⟨rfl, hb2⟩)
            go_ret
            exact ⟨ret_bool HX.out.symm, bl_tr (bl_alloc (bl_alloc hB _) _) hb2⟩
        · have HX : Hid (Nd.eqL xs ys = true) := by
            show _ = _
            rw [hH.out, List.drop_eq_nil_of_le (by omega), List.drop_eq_nil_of_le (by have := HL.out; omega)]; exact Nd.eqL_nil
          clear hH k1 k2
          go_wp2
          go_ret
          exact ⟨ret_bool HX.out.symm, hB⟩
  · have H : Hid (Nd.eqL xs ys = false) := Nd.eqL_len hl
    subst e1; subst e2
    have hl2 : ¬ ((xs.length : Int) = (ys.length : Int)) := by omega
    clear h1 h2 hl
    go_enter Tryz.func71, Tryz.ntmps71
    go_wp2
    go_ret
    exact ⟨ret_bool H.out.symm, Below.refl _ _⟩

set_option maxHeartbeats 2000000 in
set_option maxRecDepth 100000 in
theorem eqFunc2 (n : Nat) (ih : SameOf 40 n 2) : SameLOf 39 (.func (.func 40) #[] #[]) n 2 := by
  intro w v1 v2 xs ys h1 h2
  obtain ⟨a1, c1, e1, hx⟩ := h1.form
  obtain ⟨a2, c2, e2, hy⟩ := h2.form
  unfold maxLen at hx hy
  by_cases hl : xs.length = ys.length
  · by_cases h0 : ys = []
    · subst h0
      obtain rfl : xs = [] := List.eq_nil_of_length_eq_zero (by simpa using hl)
      subst e1; subst e2
      clear h1 h2
      go_enter Tryz.func39, Tryz.ntmps39
      go_wp2
      go_loopw [17] (fun v wr => v = .int .i64 0 ∧ wr = w) (fun _ _ => 0)
      case atStart => exact ⟨rfl, rfl⟩
      case round =>
        obtain ⟨rfl, rfl⟩ := hrel
        go_wp2
        go_ret
        exact ⟨ret_bool Nd.eqL_nil.symm, Below.refl _ _⟩
    · have h0x : ¬ xs = [] := fun e => h0 (List.eq_nil_of_length_eq_zero (by rw [← hl, e]; rfl))
      clear e1 e2
      obtain ⟨g1, o1, c1, rfl, -, -, -, k1⟩ := h1.resolve_right (fun h => h0x h.1)
      obtain ⟨g2, o2, c2, rfl, -, -, -, k2⟩ := h2.resolve_right (fun h => h0 h.1)
      have HL : Hid (xs.length = ys.length) := hl
      have hw2 : ys.length = xs.length := hl.symm
      rw [hw2]
      clear h1 h2 hl h0 h0x hy hw2
      go_enter Tryz.func39, Tryz.ntmps39
      go_wp2
      go_loopw [17] (fun v wr => ∃ k : Nat, v = .int .i64 k ∧ k ≤ xs.length ∧ Hid (Nd.eqL xs ys = Nd.eqL (xs.drop k) (ys.drop k)) ∧ Below w.heap.size w wr) (fun v _ => xs.length - (intOf v).toNat)
      case atStart => exact ⟨0, rfl, Nat.zero_le _, rfl, Below.refl _ _⟩
      case round =>
        obtain ⟨k, rfl, hk, hH, hB⟩ := hrel
        by_cases hlt : k < xs.length
        · obtain ⟨x, hxk⟩ : ∃ x, xs[k]? = some x := ⟨_, List.getElem?_eq_getElem hlt⟩
          obtain ⟨y, hyk⟩ : ∃ y, ys[k]? = some y := ⟨_, List.getElem?_eq_getElem (by rw [← HL.out]; exact hlt)⟩
          obtain ⟨va, ha, ca, ta⟩ := k1 k x hxk
          obtain ⟨vb, hb, cb, tb⟩ := k2 k y hyk
          have cb1 : ∀ o, Cells (wr.alloc o) g2 (o2 + k * 8) vb := fun o => (cb.move trivial (Keeps.of_below (K := Any) hB)).move trivial (Keeps.of_below (K := Any) (bl_alloc (Below.refl _ _) o))
          replace ca := ca.move trivial (Keeps.of_below (K := Any) hB)
          have HQ : Hid (∀ w', Below w.heap.size w w' → Calls Tryz.prog 40 #[.agg va.toArray, .agg vb.toArray] w' fun e w'' => e = .returned (.bool (Nd.eq x y)) ∧ Below w'.heap.size w' w'') := fun w' h' => ih w' va vb x y (At.move (Keeps.of_below h') (fun _ h => h) _ _ _ _ ta) (At.move (Keeps.of_below h') (fun _ h => h) _ _ _ _ tb)
          obtain ⟨i0x, i1x, i2x, a3x, n3x, c3x, d0x, m0x, e0x, d1x, m1x, e1x, d2x, m2x, e2x, d3x, m3x, e3x, rfl⟩ := At.exp_form ta
          obtain ⟨i0y, i1y, i2y, a3y, n3y, c3y, d0y, m0y, e0y, d1y, m1y, e1y, d2y, m2y, e2y, d3y, m3y, e3y, rfl⟩ := At.exp_form tb
          clear ta tb ha hb
          have x0 : wr.cell? ⟨g1, o1 + k * 8, none⟩ = some (.int .i64 i0x) := ca 0 _ rfl
          have z0 : ∀ o, (wr.alloc o).cell? ⟨g2, o2 + k * 8, none⟩ = some (.int .i64 i0y) := fun o => cb1 o 0 _ rfl
          have x1 : wr.cell? ⟨g1, o1 + k * 8 + 1, none⟩ = some (.int .i64 i1x) := ca 1 _ rfl
          have z1 : ∀ o, (wr.alloc o).cell? ⟨g2, o2 + k * 8 + 1, none⟩ = some (.int .i64 i1y) := fun o => cb1 o 1 _ rfl
          have x2 : wr.cell? ⟨g1, o1 + k * 8 + 2, none⟩ = some (.int .i64 i2x) := ca 2 _ rfl
          have z2 : ∀ o, (wr.alloc o).cell? ⟨g2, o2 + k * 8 + 2, none⟩ = some (.int .i64 i2y) := fun o => cb1 o 2 _ rfl
          have x3 : wr.cell? ⟨g1, o1 + k * 8 + 3, none⟩ = some (.slice a3x n3x c3x) := ca 3 _ rfl
          have z3 : ∀ o, (wr.alloc o).cell? ⟨g2, o2 + k * 8 + 3, none⟩ = some (.slice a3y n3y c3y) := fun o => cb1 o 3 _ rfl
          have x4 : wr.cell? ⟨g1, o1 + k * 8 + 4, none⟩ = some (.slice d0x m0x e0x) := ca 4 _ rfl
          have z4 : ∀ o, (wr.alloc o).cell? ⟨g2, o2 + k * 8 + 4, none⟩ = some (.slice d0y m0y e0y) := fun o => cb1 o 4 _ rfl
          have x5 : wr.cell? ⟨g1, o1 + k * 8 + 5, none⟩ = some (.slice d1x m1x e1x) := ca 5 _ rfl
          have z5 : ∀ o, (wr.alloc o).cell? ⟨g2, o2 + k * 8 + 5, none⟩ = some (.slice d1y m1y e1y) := fun o => cb1 o 5 _ rfl
          have x6 : wr.cell? ⟨g1, o1 + k * 8 + 6, none⟩ = some (.slice d2x m2x e2x) := ca 6 _ rfl
          have z6 : ∀ o, (wr.alloc o).cell? ⟨g2, o2 + k * 8 + 6, none⟩ = some (.slice d2y m2y e2y) := fun o => cb1 o 6 _ rfl
          have x7 : wr.cell? ⟨g1, o1 + k * 8 + 7, none⟩ = some (.slice d3x m3x e3x) := ca 7 _ rfl
          have z7 : ∀ o, (wr.alloc o).cell? ⟨g2, o2 + k * 8 + 7, none⟩ = some (.slice d3y m3y e3y) := fun o => cb1 o 7 _ rfl
          clear ca cb1 cb
          have hH2 := hH.out
          rw [Nd.eqL_at hxk hyk] at hH2
          clear hH hxk hyk k1 k2
          cases he : Nd.eq x y with
          | true =>
            rw [he, Bool.true_and] at hH2
            have HX : Hid (Nd.eqL xs ys = Nd.eqL (xs.drop (k + 1)) (ys.drop (k + 1))) := hH2
            rw [he] at HQ
            clear hH2 he
            go_wp2_with (go_at_call 40; refine (HQ.out _ (bl_alloc (bl_alloc hB _) _)).mono ?_; rintro e w2 ⟨rfl, hb2⟩)
            go_roundw
            case rel => exact ⟨k + 1, by go_num, by omega, HX, bl_tr (bl_alloc (bl_alloc hB _) _) hb2⟩
            case measure => simp [intOf]; omega
          | false =>
            rw [he, Bool.false_and] at hH2
            have HX : Hid (Nd.eqL xs ys = false) := hH2
            rw [he] at HQ
            clear hH2 he
            go_wp2_with (go_at_call 40; refine (HQ.out _ (bl_alloc (bl_alloc hB _) _)).mono ?_; rintro e w2 ⟨rfl, hb2⟩)
            go_ret
            exact ⟨ret_bool HX.out.symm, bl_tr (bl_alloc (bl_alloc hB _) _) hb2⟩
        · have HX : Hid (Nd.eqL xs ys = true) := by
            show _ = _
            rw [hH.out, List.drop_eq_nil_of_le (by omega), List.drop_eq_nil_of_le (by have := HL.out; omega)]; exact Nd.eqL_nil
          clear hH k1 k2
          go_wp2
          go_ret
          exact ⟨ret_bool HX.out.symm, hB⟩
  · have H : Hid (Nd.eqL xs ys = false) := Nd.eqL_len hl
    subst e1; subst e2
    have hl2 : ¬ ((xs.length : Int) = (ys.length : Int)) := by omega
    clear h1 h2 hl
    go_enter Tryz.func39, Tryz.ntmps39
    go_wp2
    go_ret
    exact ⟨ret_bool H.out.symm, Below.refl _ _⟩

set_option maxHeartbeats 2000000 in
set_option maxRecDepth 100000 in
theorem eqFunc3 (n : Nat) (ih : SameOf 14 n 3) : SameLOf 13 (.func (.func 14) #[] #[]) n 3 := by
  intro w v1 v2 xs ys h1 h2
  obtain ⟨a1, c1, e1, hx⟩ := h1.form
  obtain ⟨a2, c2, e2, hy⟩ := h2.form
  unfold maxLen at hx hy
  by_cases hl : xs.length = ys.length
  · by_cases h0 : ys = []
    · subst h0
      obtain rfl : xs = [] := List.eq_nil_of_length_eq_zero (by simpa using hl)
      subst e1; subst e2
      clear h1 h2
      go_enter Tryz.func13, Tryz.ntmps13
      go_wp2
      go_loopw [17] (fun v wr => v = .int .i64 0 ∧ wr = w) (fun _ _ => 0)
      case atStart => exact ⟨rfl, rfl⟩
      case round =>
        obtain ⟨rfl, rfl⟩ := hrel
        go_wp2
        go_ret
        exact ⟨ret_bool Nd.eqL_nil.symm, Below.refl _ _⟩
    · have h0x : ¬ xs = [] := fun e => h0 (List.eq_nil_of_length_eq_zero (by rw [← hl, e]; rfl))
      clear e1 e2
      obtain ⟨g1, o1, c1, rfl, -, -, -, k1⟩ := h1.resolve_right (fun h => h0x h.1)
      obtain ⟨g2, o2, c2, rfl, -, -, -, k2⟩ := h2.resolve_right (fun h => h0 h.1)
      have HL : Hid (xs.length = ys.length) := hl
      have hw2 : ys.length = xs.length := hl.symm
      rw [hw2]
      clear h1 h2 hl h0 h0x hy hw2
      go_enter Tryz.func13, Tryz.ntmps13
      go_wp2
      go_loopw [17] (fun v wr => ∃ k : Nat, v = .int .i64 k ∧ k ≤ xs.length ∧ Hid (Nd.eqL xs ys = Nd.eqL (xs.drop k) (ys.drop k)) ∧ Below w.heap.size w wr) (fun v _ => xs.length - (intOf v).toNat)
      case atStart => exact ⟨0, rfl, Nat.zero_le _, rfl, Below.refl _ _⟩
      case round =>
        obtain ⟨k, rfl, hk, hH, hB⟩ := hrel
        by_cases hlt : k < xs.length
        · obtain ⟨x, hxk⟩ : ∃ x, xs[k]? = some x := ⟨_, List.getElem?_eq_getElem hlt⟩
          obtain ⟨y, hyk⟩ : ∃ y, ys[k]? = some y := ⟨_, List.getElem?_eq_getElem (by rw [← HL.out]; exact hlt)⟩
          obtain ⟨va, ha, ca, ta⟩ := k1 k x hxk
          obtain ⟨vb, hb, cb, tb⟩ := k2 k y hyk
          have cb1 : ∀ o, Cells (wr.alloc o) g2 (o2 + k * 9) vb := fun o => (cb.move trivial (Keeps.of_below (K := Any) hB)).move trivial (Keeps.of_below (K := Any) (bl_alloc (Below.refl _ _) o))
          replace ca := ca.move trivial (Keeps.of_below (K := Any) hB)
          have HQ : Hid (∀ w', Below w.heap.size w w' → Calls Tryz.prog 14 #[.agg va.toArray, .agg vb.toArray] w' fun e w'' => e = .returned (.bool (Nd.eq x y)) ∧ Below w'.heap.size w' w'') := fun w' h' => ih w' va vb x y (At.move (Keeps.of_below h') (fun _ h => h) _ _ _ _ ta) (At.move (Keeps.of_below h') (fun _ h => h) _ _ _ _ tb)
          obtain ⟨i0x, i1x, s2x, a3x, n3x, c3x, d0x, m0x, e0x, d1x, m1x, e1x, d2x, m2x, e2x, d3x, m3x, e3x, d4x, m4x, e4x, rfl⟩ := At.dec_form ta
          obtain ⟨i0y, i1y, s2y, a3y, n3y, c3y, d0y, m0y, e0y, d1y, m1y, e1y, d2y, m2y, e2y, d3y, m3y, e3y, d4y, m4y, e4y, rfl⟩ := At.dec_form tb
          clear ta tb ha hb
          have x0 : wr.cell? ⟨g1, o1 + k * 9, none⟩ = some (.int .i64 i0x) := ca 0 _ rfl
          have z0 : ∀ o, (wr.alloc o).cell? ⟨g2, o2 + k * 9, none⟩ = some (.int .i64 i0y) := fun o => cb1 o 0 _ rfl
          have x1 : wr.cell? ⟨g1, o1 + k * 9 + 1, none⟩ = some (.int .i64 i1x) := ca 1 _ rfl
          have z1 : ∀ o, (wr.alloc o).cell? ⟨g2, o2 + k * 9 + 1, none⟩ = some (.int .i64 i1y) := fun o => cb1 o 1 _ rfl
          have x2 : wr.cell? ⟨g1, o1 + k * 9 + 2, none⟩ = some (.string s2x) := ca 2 _ rfl
          have z2 : ∀ o, (wr.alloc o).cell? ⟨g2, o2 + k * 9 + 2, none⟩ = some (.string s2y) := fun o => cb1 o 2 _ rfl
          have x3 : wr.cell? ⟨g1, o1 + k * 9 + 3, none⟩ = some (.slice a3x n3x c3x) := ca 3 _ rfl
          have z3 : ∀ o, (wr.alloc o).cell? ⟨g2, o2 + k * 9 + 3, none⟩ = some (.slice a3y n3y c3y) := fun o => cb1 o 3 _ rfl
          have x4 : wr.cell? ⟨g1, o1 + k * 9 + 4, none⟩ = some (.slice d0x m0x e0x) := ca 4 _ rfl
          have z4 : ∀ o, (wr.alloc o).cell? ⟨g2, o2 + k * 9 + 4, none⟩ = some (.slice d0y m0y e0y) := fun o => cb1 o 4 _ rfl
          have x5 : wr.cell? ⟨g1, o1 + k * 9 + 5, none⟩ = some (.slice d1x m1x e1x) := ca 5 _ rfl
          have z5 : ∀ o, (wr.alloc o).cell? ⟨g2, o2 + k * 9 + 5, none⟩ = some (.slice d1y m1y e1y) := fun o => cb1 o 5 _ rfl
          have x6 : wr.cell? ⟨g1, o1 + k * 9 + 6, none⟩ = some (.slice d2x m2x e2x) := ca 6 _ rfl
          have z6 : ∀ o, (wr.alloc o).cell? ⟨g2, o2 + k * 9 + 6, none⟩ = some (.slice d2y m2y e2y) := fun o => cb1 o 6 _ rfl
          have x7 : wr.cell? ⟨g1, o1 + k * 9 + 7, none⟩ = some (.slice d3x m3x e3x) := ca 7 _ rfl
          have z7 : ∀ o, (wr.alloc o).cell? ⟨g2, o2 + k * 9 + 7, none⟩ = some (.slice d3y m3y e3y) := fun o => cb1 o 7 _ rfl
          have x8 : wr.cell? ⟨g1, o1 + k * 9 + 8, none⟩ = some (.slice d4x m4x e4x) := ca 8 _ rfl
          have z8 : ∀ o, (wr.alloc o).cell? ⟨g2, o2 + k * 9 + 8, none⟩ = some (.slice d4y m4y e4y) := fun o => cb1 o 8 _ rfl
          clear ca cb1 cb
          have hH2 := hH.out
          rw [Nd.eqL_at hxk hyk] at hH2
          clear hH hxk hyk k1 k2
          cases he : Nd.eq x y with
          | true =>
            rw [he, Bool.true_and] at hH2
            have HX : Hid (Nd.eqL xs ys = Nd.eqL (xs.drop (k + 1)) (ys.drop (k + 1))) := hH2
            rw [he] at HQ
            clear hH2 he
            go_wp2_with (go_at_call 14; refine (HQ.out _ (bl_alloc (bl_alloc hB _) _)).mono ?_; rintro e w2 ⟨rfl, hb2⟩)
            go_roundw
            case rel => exact ⟨k + 1, by go_num, by omega, HX, bl_tr (bl_alloc (bl_alloc hB _) _) hb2⟩
            case measure => simp [intOf]; omega
          | false =>
            rw [he, Bool.false_and] at hH2
            have HX : Hid (Nd.eqL xs ys = false) := hH2
            rw [he] at HQ
            clear hH2 he
            go_wp2_with (go_at_call 14; refine (HQ.out _ (bl_alloc (bl_alloc hB _) _)).mono ?_; rintro e w2 ⟨rfl, hb2⟩)
            go_ret
            exact ⟨ret_bool HX.out.symm, bl_tr (bl_alloc (bl_alloc hB _) _) hb2⟩
        · have HX : Hid (Nd.eqL xs ys = true) := by
            show _ = _
            rw [hH.out, List.drop_eq_nil_of_le (by omega), List.drop_eq_nil_of_le (by have := HL.out; omega)]; exact Nd.eqL_nil
          clear hH k1 k2
          go_wp2
          go_ret
          exact ⟨ret_bool HX.out.symm, hB⟩
  · have H : Hid (Nd.eqL xs ys = false) := Nd.eqL_len hl
    subst e1; subst e2
    have hl2 : ¬ ((xs.length : Int) = (ys.length : Int)) := by omega
    clear h1 h2 hl
    go_enter Tryz.func13, Tryz.ntmps13
    go_wp2
    go_ret
    exact ⟨ret_bool H.out.symm, Below.refl _ _⟩

set_option maxHeartbeats 2000000 in
set_option maxRecDepth 100000 in
theorem eqFunc4 (n : Nat) (ih : SameOf 42 n 4) : SameLOf 41 (.func (.func 42) #[] #[]) n 4 := by
  intro w v1 v2 xs ys h1 h2
  obtain ⟨a1, c1, e1, hx⟩ := h1.form
  obtain ⟨a2, c2, e2, hy⟩ := h2.form
  unfold maxLen at hx hy
  by_cases hl : xs.length = ys.length
  · by_cases h0 : ys = []
    · subst h0
      obtain rfl : xs = [] := List.eq_nil_of_length_eq_zero (by simpa using hl)
      subst e1; subst e2
      clear h1 h2
      go_enter Tryz.func41, Tryz.ntmps41
      go_wp2
      go_loopw [17] (fun v wr => v = .int .i64 0 ∧ wr = w) (fun _ _ => 0)
      case atStart => exact ⟨rfl, rfl⟩
      case round =>
        obtain ⟨rfl, rfl⟩ := hrel
        go_wp2
        go_ret
        exact ⟨ret_bool Nd.eqL_nil.symm, Below.refl _ _⟩
    · have h0x : ¬ xs = [] := fun e => h0 (List.eq_nil_of_length_eq_zero (by rw [← hl, e]; rfl))
      clear e1 e2
      obtain ⟨g1, o1, c1, rfl, -, -, -, k1⟩ := h1.resolve_right (fun h => h0x h.1)
      obtain ⟨g2, o2, c2, rfl, -, -, -, k2⟩ := h2.resolve_right (fun h => h0 h.1)
      have HL : Hid (xs.length = ys.length) := hl
      have hw2 : ys.length = xs.length := hl.symm
      rw [hw2]
      clear h1 h2 hl h0 h0x hy hw2
      go_enter Tryz.func41, Tryz.ntmps41
      go_wp2
      go_loopw [17] (fun v wr => ∃ k : Nat, v = .int .i64 k ∧ k ≤ xs.length ∧ Hid (Nd.eqL xs ys = Nd.eqL (xs.drop k) (ys.drop k)) ∧ Below w.heap.size w wr) (fun v _ => xs.length - (intOf v).toNat)
      case atStart => exact ⟨0, rfl, Nat.zero_le _, rfl, Below.refl _ _⟩
      case round =>
        obtain ⟨k, rfl, hk, hH, hB⟩ := hrel
        by_cases hlt : k < xs.length
        · obtain ⟨x, hxk⟩ : ∃ x, xs[k]? = some x := ⟨_, List.getElem?_eq_getElem hlt⟩
          obtain ⟨y, hyk⟩ : ∃ y, ys[k]? = some y := ⟨_, List.getElem?_eq_getElem (by rw [← HL.out]; exact hlt)⟩
          obtain ⟨va, ha, ca, ta⟩ := k1 k x hxk
          obtain ⟨vb, hb, cb, tb⟩ := k2 k y hyk
          have cb1 : ∀ o, Cells (wr.alloc o) g2 (o2 + k * 2) vb := fun o => (cb.move trivial (Keeps.of_below (K := Any) hB)).move trivial (Keeps.of_below (K := Any) (bl_alloc (Below.refl _ _) o))
          replace ca := ca.move trivial (Keeps.of_below (K := Any) hB)
          have HQ : Hid (∀ w', Below w.heap.size w w' → Calls Tryz.prog 42 #[.agg va.toArray, .agg vb.toArray] w' fun e w'' => e = .returned (.bool (Nd.eq x y)) ∧ Below w'.heap.size w' w'') := fun w' h' => ih w' va vb x y (At.move (Keeps.of_below h') (fun _ h => h) _ _ _ _ ta) (At.move (Keeps.of_below h') (fun _ h => h) _ _ _ _ tb)
          obtain ⟨s0x, d0x, m0x, e0x, rfl⟩ := At.con_form ta
          obtain ⟨s0y, d0y, m0y, e0y, rfl⟩ := At.con_form tb
          clear ta tb ha hb
          have x0 : wr.cell? ⟨g1, o1 + k * 2, none⟩ = some (.string s0x) := ca 0 _ rfl
          have z0 : ∀ o, (wr.alloc o).cell? ⟨g2, o2 + k * 2, none⟩ = some (.string s0y) := fun o => cb1 o 0 _ rfl
          have x1 : wr.cell? ⟨g1, o1 + k * 2 + 1, none⟩ = some (.slice d0x m0x e0x) := ca 1 _ rfl
          have z1 : ∀ o, (wr.alloc o).cell? ⟨g2, o2 + k * 2 + 1, none⟩ = some (.slice d0y m0y e0y) := fun o => cb1 o 1 _ rfl
          clear ca cb1 cb
          have hH2 := hH.out
          rw [Nd.eqL_at hxk hyk] at hH2
          clear hH hxk hyk k1 k2
          cases he : Nd.eq x y with
          | true =>
            rw [he, Bool.true_and] at hH2
            have HX : Hid (Nd.eqL xs ys = Nd.eqL (xs.drop (k + 1)) (ys.drop (k + 1))) := hH2
            rw [he] at HQ
            clear hH2 he
            go_wp2_with (go_at_call 42; refine (HQ.out _ (bl_alloc (bl_alloc hB _) _)).mono ?_; rintro e w2 ⟨rfl, hb2⟩)
            go_roundw
            case rel => exact ⟨k + 1, by go_num, by omega, HX, bl_tr (bl_alloc (bl_alloc hB _) _) hb2⟩
            case measure => simp [intOf]; omega
          | false =>
            rw [he, Bool.false_and] at hH2
            have HX : Hid (Nd.eqL xs ys = false) := hH2
            rw [he] at HQ
            clear hH2 he
            go_wp2_with (go_at_call 42; refine (HQ.out _ (bl_alloc (bl_alloc hB _) _)).mono ?_; rintro e w2 ⟨rfl, hb2⟩)
            go_ret
            exact ⟨ret_bool HX.out.symm, bl_tr (bl_alloc (bl_alloc hB _) _) hb2⟩
        · have HX : Hid (Nd.eqL xs ys = true) := by
            show _ = _
            rw [hH.out, List.drop_eq_nil_of_le (by omega), List.drop_eq_nil_of_le (by have := HL.out; omega)]; exact Nd.eqL_nil
          clear hH k1 k2
          go_wp2
          go_ret
          exact ⟨ret_bool HX.out.symm, hB⟩
  · have H : Hid (Nd.eqL xs ys = false) := Nd.eqL_len hl
    subst e1; subst e2
    have hl2 : ¬ ((xs.length : Int) = (ys.length : Int)) := by omega
    clear h1 h2 hl
    go_enter Tryz.func41, Tryz.ntmps41
    go_wp2
    go_ret
    exact ⟨ret_bool H.out.symm, Below.refl _ _⟩

set_option maxHeartbeats 2000000 in
set_option maxRecDepth 100000 in
theorem eqFunc5 (n : Nat) (ih : SameOf 44 n 5) : SameLOf 43 (.func (.func 44) #[] #[]) n 5 := by
  intro w v1 v2 xs ys h1 h2
  obtain ⟨a1, c1, e1, hx⟩ := h1.form
  obtain ⟨a2, c2, e2, hy⟩ := h2.form
  unfold maxLen at hx hy
  by_cases hl : xs.length = ys.length
  · by_cases h0 : ys = []
    · subst h0
      obtain rfl : xs = [] := List.eq_nil_of_length_eq_zero (by simpa using hl)
      subst e1; subst e2
      clear h1 h2
      go_enter Tryz.func43, Tryz.ntmps43
      go_wp2
      go_loopw [17] (fun v wr => v = .int .i64 0 ∧ wr = w) (fun _ _ => 0)
      case atStart => exact ⟨rfl, rfl⟩
      case round =>
        obtain ⟨rfl, rfl⟩ := hrel
        go_wp2
        go_ret
        exact ⟨ret_bool Nd.eqL_nil.symm, Below.refl _ _⟩
    · have h0x : ¬ xs = [] := fun e => h0 (List.eq_nil_of_length_eq_zero (by rw [← hl, e]; rfl))
      clear e1 e2
      obtain ⟨g1, o1, c1, rfl, -, -, -, k1⟩ := h1.resolve_right (fun h => h0x h.1)
      obtain ⟨g2, o2, c2, rfl, -, -, -, k2⟩ := h2.resolve_right (fun h => h0 h.1)
      have HL : Hid (xs.length = ys.length) := hl
      have hw2 : ys.length = xs.length := hl.symm
      rw [hw2]
      clear h1 h2 hl h0 h0x hy hw2
      go_enter Tryz.func43, Tryz.ntmps43
      go_wp2
      go_loopw [17] (fun v wr => ∃ k : Nat, v = .int .i64 k ∧ k ≤ xs.length ∧ Hid (Nd.eqL xs ys = Nd.eqL (xs.drop k) (ys.drop k)) ∧ Below w.heap.size w wr) (fun v _ => xs.length - (intOf v).toNat)
      case atStart => exact ⟨0, rfl, Nat.zero_le _, rfl, Below.refl _ _⟩
      case round =>
        obtain ⟨k, rfl, hk, hH, hB⟩ := hrel
        by_cases hlt : k < xs.length
        · obtain ⟨x, hxk⟩ : ∃ x, xs[k]? = some x := ⟨_, List.getElem?_eq_getElem hlt⟩
          obtain ⟨y, hyk⟩ : ∃ y, ys[k]? = some y := ⟨_, List.getElem?_eq_getElem (by rw [← HL.out]; exact hlt)⟩
          obtain ⟨va, ha, ca, ta⟩ := k1 k x hxk
          obtain ⟨vb, hb, cb, tb⟩ := k2 k y hyk
          have cb1 : ∀ o, Cells (wr.alloc o) g2 (o2 + k * 5) vb := fun o => (cb.move trivial (Keeps.of_below (K := Any) hB)).move trivial (Keeps.of_below (K := Any) (bl_alloc (Below.refl _ _) o))
          replace ca := ca.move trivial (Keeps.of_below (K := Any) hB)
          have HQ : Hid (∀ w', Below w.heap.size w w' → Calls Tryz.prog 44 #[.agg va.toArray, .agg vb.toArray] w' fun e w'' => e = .returned (.bool (Nd.eq x y)) ∧ Below w'.heap.size w' w'') := fun w' h' => ih w' va vb x y (At.move (Keeps.of_below h') (fun _ h => h) _ _ _ _ ta) (At.move (Keeps.of_below h') (fun _ h => h) _ _ _ _ tb)
          obtain ⟨i0x, a1x, n1x, c1x, d0x, m0x, e0x, d1x, m1x, e1x, d2x, m2x, e2x, rfl⟩ := At.mod_form ta
          obtain ⟨i0y, a1y, n1y, c1y, d0y, m0y, e0y, d1y, m1y, e1y, d2y, m2y, e2y, rfl⟩ := At.mod_form tb
          clear ta tb ha hb
          have x0 : wr.cell? ⟨g1, o1 + k * 5, none⟩ = some (.int .i64 i0x) := ca 0 _ rfl
          have z0 : ∀ o, (wr.alloc o).cell? ⟨g2, o2 + k * 5, none⟩ = some (.int .i64 i0y) := fun o => cb1 o 0 _ rfl
          have x1 : wr.cell? ⟨g1, o1 + k * 5 + 1, none⟩ = some (.slice a1x n1x c1x) := ca 1 _ rfl
          have z1 : ∀ o, (wr.alloc o).cell? ⟨g2, o2 + k * 5 + 1, none⟩ = some (.slice a1y n1y c1y) := fun o => cb1 o 1 _ rfl
          have x2 : wr.cell? ⟨g1, o1 + k * 5 + 2, none⟩ = some (.slice d0x m0x e0x) := ca 2 _ rfl
          have z2 : ∀ o, (wr.alloc o).cell? ⟨g2, o2 + k * 5 + 2, none⟩ = some (.slice d0y m0y e0y) := fun o => cb1 o 2 _ rfl
          have x3 : wr.cell? ⟨g1, o1 + k * 5 + 3, none⟩ = some (.slice d1x m1x e1x) := ca 3 _ rfl
          have z3 : ∀ o, (wr.alloc o).cell? ⟨g2, o2 + k * 5 + 3, none⟩ = some (.slice d1y m1y e1y) := fun o => cb1 o 3 _ rfl
          have x4 : wr.cell? ⟨g1, o1 + k * 5 + 4, none⟩ = some (.slice d2x m2x e2x) := ca 4 _ rfl
          have z4 : ∀ o, (wr.alloc o).cell? ⟨g2, o2 + k * 5 + 4, none⟩ = some (.slice d2y m2y e2y) := fun o => cb1 o 4 _ rfl
          clear ca cb1 cb
          have hH2 := hH.out
          rw [Nd.eqL_at hxk hyk] at hH2
          clear hH hxk hyk k1 k2
          cases he : Nd.eq x y with
          | true =>
            rw [he, Bool.true_and] at hH2
            have HX : Hid (Nd.eqL xs ys = Nd.eqL (xs.drop (k + 1)) (ys.drop (k + 1))) := hH2
            rw [he] at HQ
            clear hH2 he
            go_wp2_with (go_at_call 44; refine (HQ.out _ (bl_alloc (bl_alloc hB _) _)).mono ?_; rintro e w2 ⟨rfl, hb2⟩)
            go_roundw
            case rel => exact ⟨k + 1, by go_num, by omega, HX, bl_tr (bl_alloc (bl_alloc hB _) _) hb2⟩
            case measure => simp [intOf]; omega
          | false =>
            rw [he, Bool.false_and] at hH2
            have HX : Hid (Nd.eqL xs ys = false) := hH2
            rw [he] at HQ
            clear hH2 he
            go_wp2_with (go_at_call 44; refine (HQ.out _ (bl_alloc (bl_alloc hB _) _)).mono ?_; rintro e w2 ⟨rfl, hb2⟩)
            go_ret
            exact ⟨ret_bool HX.out.symm, bl_tr (bl_alloc (bl_alloc hB _) _) hb2⟩
        · have HX : Hid (Nd.eqL xs ys = true) := by
            show _ = _
            rw [hH.out, List.drop_eq_nil_of_le (by omega), List.drop_eq_nil_of_le (by have := HL.out; omega)]; exact Nd.eqL_nil
          clear hH k1 k2
          go_wp2
          go_ret
          exact ⟨ret_bool HX.out.symm, hB⟩
  · have H : Hid (Nd.eqL xs ys = false) := Nd.eqL_len hl
    subst e1; subst e2
    have hl2 : ¬ ((xs.length : Int) = (ys.length : Int)) := by omega
    clear h1 h2 hl
    go_enter Tryz.func43, Tryz.ntmps43
    go_wp2
    go_ret
    exact ⟨ret_bool H.out.symm, Below.refl _ _⟩

set_option maxHeartbeats 2000000 in
set_option maxRecDepth 100000 in
theorem eqFunc6 (n : Nat) (ih : SameOf 46 n 6) : SameLOf 45 (.func (.func 46) #[] #[]) n 6 := by
  intro w v1 v2 xs ys h1 h2
  obtain ⟨a1, c1, e1, hx⟩ := h1.form
  obtain ⟨a2, c2, e2, hy⟩ := h2.form
  unfold maxLen at hx hy
  by_cases hl : xs.length = ys.length
  · by_cases h0 : ys = []
    · subst h0
      obtain rfl : xs = [] := List.eq_nil_of_length_eq_zero (by simpa using hl)
      subst e1; subst e2
      clear h1 h2
      go_enter Tryz.func45, Tryz.ntmps45
      go_wp2
      go_loopw [17] (fun v wr => v = .int .i64 0 ∧ wr = w) (fun _ _ => 0)
      case atStart => exact ⟨rfl, rfl⟩
      case round =>
        obtain ⟨rfl, rfl⟩ := hrel
        go_wp2
        go_ret
        exact ⟨ret_bool Nd.eqL_nil.symm, Below.refl _ _⟩
    · have h0x : ¬ xs = [] := fun e => h0 (List.eq_nil_of_length_eq_zero (by rw [← hl, e]; rfl))
      clear e1 e2
      obtain ⟨g1, o1, c1, rfl, -, -, -, k1⟩ := h1.resolve_right (fun h => h0x h.1)
      obtain ⟨g2, o2, c2, rfl, -, -, -, k2⟩ := h2.resolve_right (fun h => h0 h.1)
      have HL : Hid (xs.length = ys.length) := hl
      have hw2 : ys.length = xs.length := hl.symm
      rw [hw2]
      clear h1 h2 hl h0 h0x hy hw2
      go_enter Tryz.func45, Tryz.ntmps45
      go_wp2
      go_loopw [17] (fun v wr => ∃ k : Nat, v = .int .i64 k ∧ k ≤ xs.length ∧ Hid (Nd.eqL xs ys = Nd.eqL (xs.drop k) (ys.drop k)) ∧ Below w.heap.size w wr) (fun v _ => xs.length - (intOf v).toNat)
      case atStart => exact ⟨0, rfl, Nat.zero_le _, rfl, Below.refl _ _⟩
      case round =>
        obtain ⟨k, rfl, hk, hH, hB⟩ := hrel
        by_cases hlt : k < xs.length
        · obtain ⟨x, hxk⟩ : ∃ x, xs[k]? = some x := ⟨_, List.getElem?_eq_getElem hlt⟩
          obtain ⟨y, hyk⟩ : ∃ y, ys[k]? = some y := ⟨_, List.getElem?_eq_getElem (by rw [← HL.out]; exact hlt)⟩
          obtain ⟨va, ha, ca, ta⟩ := k1 k x hxk
          obtain ⟨vb, hb, cb, tb⟩ := k2 k y hyk
          have cb1 : ∀ o, Cells (wr.alloc o) g2 (o2 + k * 5) vb := fun o => (cb.move trivial (Keeps.of_below (K := Any) hB)).move trivial (Keeps.of_below (K := Any) (bl_alloc (Below.refl _ _) o))
          replace ca := ca.move trivial (Keeps.of_below (K := Any) hB)
          have HQ : Hid (∀ w', Below w.heap.size w w' → Calls Tryz.prog 46 #[.agg va.toArray, .agg vb.toArray] w' fun e w'' => e = .returned (.bool (Nd.eq x y)) ∧ Below w'.heap.size w' w'') := fun w' h' => ih w' va vb x y (At.move (Keeps.of_below h') (fun _ h => h) _ _ _ _ ta) (At.move (Keeps.of_below h') (fun _ h => h) _ _ _ _ tb)
          obtain ⟨i0x, a1x, n1x, c1x, d0x, m0x, e0x, d1x, m1x, e1x, d2x, m2x, e2x, rfl⟩ := At.sig_form ta
          obtain ⟨i0y, a1y, n1y, c1y, d0y, m0y, e0y, d1y, m1y, e1y, d2y, m2y, e2y, rfl⟩ := At.sig_form tb
          clear ta tb ha hb
          have x0 : wr.cell? ⟨g1, o1 + k * 5, none⟩ = some (.int .i64 i0x) := ca 0 _ rfl
          have z0 : ∀ o, (wr.alloc o).cell? ⟨g2, o2 + k * 5, none⟩ = some (.int .i64 i0y) := fun o => cb1 o 0 _ rfl
          have x1 : wr.cell? ⟨g1, o1 + k * 5 + 1, none⟩ = some (.slice a1x n1x c1x) := ca 1 _ rfl
          have z1 : ∀ o, (wr.alloc o).cell? ⟨g2, o2 + k * 5 + 1, none⟩ = some (.slice a1y n1y c1y) := fun o => cb1 o 1 _ rfl
          have x2 : wr.cell? ⟨g1, o1 + k * 5 + 2, none⟩ = some (.slice d0x m0x e0x) := ca 2 _ rfl
          have z2 : ∀ o, (wr.alloc o).cell? ⟨g2, o2 + k * 5 + 2, none⟩ = some (.slice d0y m0y e0y) := fun o => cb1 o 2 _ rfl
          have x3 : wr.cell? ⟨g1, o1 + k * 5 + 3, none⟩ = some (.slice d1x m1x e1x) := ca 3 _ rfl
          have z3 : ∀ o, (wr.alloc o).cell? ⟨g2, o2 + k * 5 + 3, none⟩ = some (.slice d1y m1y e1y) := fun o => cb1 o 3 _ rfl
          have x4 : wr.cell? ⟨g1, o1 + k * 5 + 4, none⟩ = some (.slice d2x m2x e2x) := ca 4 _ rfl
          have z4 : ∀ o, (wr.alloc o).cell? ⟨g2, o2 + k * 5 + 4, none⟩ = some (.slice d2y m2y e2y) := fun o => cb1 o 4 _ rfl
          clear ca cb1 cb
          have hH2 := hH.out
          rw [Nd.eqL_at hxk hyk] at hH2
          clear hH hxk hyk k1 k2
          cases he : Nd.eq x y with
          | true =>
            rw [he, Bool.true_and] at hH2
            have HX : Hid (Nd.eqL xs ys = Nd.eqL (xs.drop (k + 1)) (ys.drop (k + 1))) := hH2
            rw [he] at HQ
            clear hH2 he
            go_wp2_with (go_at_call 46; refine (HQ.out _ (bl_alloc (bl_alloc hB _) _)).mono ?_; rintro e w2 ⟨rfl, hb2⟩)
            go_roundw
            case rel => exact ⟨k + 1, by go_num, by omega, HX, bl_tr (bl_alloc (bl_alloc hB _) _) hb2⟩
            case measure => simp [intOf]; omega
          | false =>
            rw [he, Bool.false_and] at hH2
            have HX : Hid (Nd.eqL xs ys = false) := hH2
            rw [he] at HQ
            clear hH2 he
            go_wp2_with (go_at_call 46; refine (HQ.out _ (bl_alloc (bl_alloc hB _) _)).mono ?_; rintro e w2 ⟨rfl, hb2⟩)
            go_ret
            exact ⟨ret_bool HX.out.symm, bl_tr (bl_alloc (bl_alloc hB _) _) hb2⟩
        · have HX : Hid (Nd.eqL xs ys = true) := by
            show _ = _
            rw [hH.out, List.drop_eq_nil_of_le (by omega), List.drop_eq_nil_of_le (by have := HL.out; omega)]; exact Nd.eqL_nil
          clear hH k1 k2
          go_wp2
          go_ret
          exact ⟨ret_bool HX.out.symm, hB⟩
  · have H : Hid (Nd.eqL xs ys = false) := Nd.eqL_len hl
    subst e1; subst e2
    have hl2 : ¬ ((xs.length : Int) = (ys.length : Int)) := by omega
    clear h1 h2 hl
    go_enter Tryz.func45, Tryz.ntmps45
    go_wp2
    go_ret
    exact ⟨ret_bool H.out.symm, Below.refl _ _⟩

set_option maxHeartbeats 2000000 in
set_option maxRecDepth 100000 in
theorem eqFunc7 (n : Nat) (ih : SameOf 74 n 7) : SameLOf 73 (.func (.func 74) #[] #[]) n 7 := by
  intro w v1 v2 xs ys h1 h2
  obtain ⟨a1, c1, e1, hx⟩ := h1.form
  obtain ⟨a2, c2, e2, hy⟩ := h2.form
  unfold maxLen at hx hy
  by_cases hl : xs.length = ys.length
  · by_cases h0 : ys = []
    · subst h0
      obtain rfl : xs = [] := List.eq_nil_of_length_eq_zero (by simpa using hl)
      subst e1; subst e2
      clear h1 h2
      go_enter Tryz.func73, Tryz.ntmps73
      go_wp2
      go_loopw [17] (fun v wr => v = .int .i64 0 ∧ wr = w) (fun _ _ => 0)
      case atStart => exact ⟨rfl, rfl⟩
      case round =>
        obtain ⟨rfl, rfl⟩ := hrel
        go_wp2
        go_ret
        exact ⟨ret_bool Nd.eqL_nil.symm, Below.refl _ _⟩
    · have h0x : ¬ xs = [] := fun e => h0 (List.eq_nil_of_length_eq_zero (by rw [← hl, e]; rfl))
      clear e1 e2
      obtain ⟨g1, o1, c1, rfl, -, -, -, k1⟩ := h1.resolve_right (fun h => h0x h.1)
      obtain ⟨g2, o2, c2, rfl, -, -, -, k2⟩ := h2.resolve_right (fun h => h0 h.1)
      have HL : Hid (xs.length = ys.length) := hl
      have hw2 : ys.length = xs.length := hl.symm
      rw [hw2]
      clear h1 h2 hl h0 h0x hy hw2
      go_enter Tryz.func73, Tryz.ntmps73
      go_wp2
      go_loopw [17] (fun v wr => ∃ k : Nat, v = .int .i64 k ∧ k ≤ xs.length ∧ Hid (Nd.eqL xs ys = Nd.eqL (xs.drop k) (ys.drop k)) ∧ Below w.heap.size w wr) (fun v _ => xs.length - (intOf v).toNat)
      case atStart => exact ⟨0, rfl, Nat.zero_le _, rfl, Below.refl _ _⟩
      case round =>
        obtain ⟨k, rfl, hk, hH, hB⟩ := hrel
        by_cases hlt : k < xs.length
        · obtain ⟨x, hxk⟩ : ∃ x, xs[k]? = some x := ⟨_, List.getElem?_eq_getElem hlt⟩
          obtain ⟨y, hyk⟩ : ∃ y, ys[k]? = some y := ⟨_, List.getElem?_eq_getElem (by rw [← HL.out]; exact hlt)⟩
          obtain ⟨va, ha, ca, ta⟩ := k1 k x hxk
          obtain ⟨vb, hb, cb, tb⟩ := k2 k y hyk
          have cb1 : ∀ o, Cells (wr.alloc o) g2 (o2 + k * 6) vb := fun o => (cb.move trivial (Keeps.of_below (K := Any) hB)).move trivial (Keeps.of_below (K := Any) (bl_alloc (Below.refl _ _) o))
          replace ca := ca.move trivial (Keeps.of_below (K := Any) hB)
          have HQ : Hid (∀ w', Below w.heap.size w w' → Calls Tryz.prog 74 #[.agg va.toArray, .agg vb.toArray] w' fun e w'' => e = .returned (.bool (Nd.eq x y)) ∧ Below w'.heap.size w' w'') := fun w' h' => ih w' va vb x y (At.move (Keeps.of_below h') (fun _ h => h) _ _ _ _ ta) (At.move (Keeps.of_below h') (fun _ h => h) _ _ _ _ tb)
          obtain ⟨i0x, i1x, s2x, d0x, m0x, e0x, d1x, m1x, e1x, d2x, m2x, e2x, rfl⟩ := At.spec_form ta
          obtain ⟨i0y, i1y, s2y, d0y, m0y, e0y, d1y, m1y, e1y, d2y, m2y, e2y, rfl⟩ := At.spec_form tb
          clear ta tb ha hb
          have x0 : wr.cell? ⟨g1, o1 + k * 6, none⟩ = some (.int .i64 i0x) := ca 0 _ rfl
          have z0 : ∀ o, (wr.alloc o).cell? ⟨g2, o2 + k * 6, none⟩ = some (.int .i64 i0y) := fun o => cb1 o 0 _ rfl
          have x1 : wr.cell? ⟨g1, o1 + k * 6 + 1, none⟩ = some (.int .i64 i1x) := ca 1 _ rfl
          have z1 : ∀ o, (wr.alloc o).cell? ⟨g2, o2 + k * 6 + 1, none⟩ = some (.int .i64 i1y) := fun o => cb1 o 1 _ rfl
          have x2 : wr.cell? ⟨g1, o1 + k * 6 + 2, none⟩ = some (.string s2x) := ca 2 _ rfl
          have z2 : ∀ o, (wr.alloc o).cell? ⟨g2, o2 + k * 6 + 2, none⟩ = some (.string s2y) := fun o => cb1 o 2 _ rfl
          have x3 : wr.cell? ⟨g1, o1 + k * 6 + 3, none⟩ = some (.slice d0x m0x e0x) := ca 3 _ rfl
          have z3 : ∀ o, (wr.alloc o).cell? ⟨g2, o2 + k * 6 + 3, none⟩ = some (.slice d0y m0y e0y) := fun o => cb1 o 3 _ rfl
          have x4 : wr.cell? ⟨g1, o1 + k * 6 + 4, none⟩ = some (.slice d1x m1x e1x) := ca 4 _ rfl
          have z4 : ∀ o, (wr.alloc o).cell? ⟨g2, o2 + k * 6 + 4, none⟩ = some (.slice d1y m1y e1y) := fun o => cb1 o 4 _ rfl
          have x5 : wr.cell? ⟨g1, o1 + k * 6 + 5, none⟩ = some (.slice d2x m2x e2x) := ca 5 _ rfl
          have z5 : ∀ o, (wr.alloc o).cell? ⟨g2, o2 + k * 6 + 5, none⟩ = some (.slice d2y m2y e2y) := fun o => cb1 o 5 _ rfl
          clear ca cb1 cb
          have hH2 := hH.out
          rw [Nd.eqL_at hxk hyk] at hH2
          clear hH hxk hyk k1 k2
          cases he : Nd.eq x y with
          | true =>
            rw [he, Bool.true_and] at hH2
            have HX : Hid (Nd.eqL xs ys = Nd.eqL (xs.drop (k + 1)) (ys.drop (k + 1))) := hH2
            rw [he] at HQ
            clear hH2 he
            go_wp2_with (go_at_call 74; refine (HQ.out _ (bl_alloc (bl_alloc hB _) _)).mono ?_; rintro e w2 ⟨rfl, hb2⟩)
            go_roundw
            case rel => exact ⟨k + 1, by go_num, by omega, HX, bl_tr (bl_alloc (bl_alloc hB _) _) hb2⟩
            case measure => simp [intOf]; omega
          | false =>
            rw [he, Bool.false_and] at hH2
            have HX : Hid (Nd.eqL xs ys = false) := hH2
            rw [he] at HQ
            clear hH2 he
            go_wp2_with (go_at_call 74; refine (HQ.out _ (bl_alloc (bl_alloc hB _) _)).mono ?_; rintro e w2 ⟨rfl, hb2⟩)
            go_ret
            exact ⟨ret_bool HX.out.symm, bl_tr (bl_alloc (bl_alloc hB _) _) hb2⟩
        · have HX : Hid (Nd.eqL xs ys = true) := by
            show _ = _
            rw [hH.out, List.drop_eq_nil_of_le (by omega), List.drop_eq_nil_of_le (by have := HL.out; omega)]; exact Nd.eqL_nil
          clear hH k1 k2
          go_wp2
          go_ret
          exact ⟨ret_bool HX.out.symm, hB⟩
  · have H : Hid (Nd.eqL xs ys = false) := Nd.eqL_len hl
    subst e1; subst e2
    have hl2 : ¬ ((xs.length : Int) = (ys.length : Int)) := by omega
    clear h1 h2 hl
    go_enter Tryz.func73, Tryz.ntmps73
    go_wp2
    go_ret
    exact ⟨ret_bool H.out.symm, Below.refl _ _⟩

end Go.Proofs.YtgiegjghldhppabGreat
