/- Tokens in memory, of whatever numbers; what the program's Same comes to. -/
import Derived.Test.YtfjcnncpmhfbnaaDoorLexAlive
namespace Go.Proofs.YtfjcnncpmhfbnaaDoor
open Go.RowKit
set_option linter.unusedVariables false

theorem lxStr_eq (x y : ByteArray) : (x.toList == y.toList) = decide (x = y) := by
  rw [Lib.toList_data, Lib.toList_data, Bool.eq_iff_iff, beq_iff_eq, decide_eq_true_iff]
  constructor
  · intro h
    cases x; cases y; congr 1; exact Array.toList_inj.1 h
  · rintro rfl; rfl
structure Tv where
  kind : Int
  text : ByteArray
  n : Int
  place : Int
def Tv.cells (t : Tv) : List Value := [.int .i64 t.kind, .string t.text, .int .i64 t.n, .int .i64 t.place]
def Tv.core (t : Tv) : Int × ByteArray × Int := (t.kind, t.text, t.n)
/-- A slice of tokens in memory. -/
def TvAt (w : World) (v : Value) (ts : List Tv) : Prop :=
  (ts = [] ∧ ∃ a c, v = .slice a 0 c) ∨ ∃ g o c, v = .slice (some ⟨g, o, none⟩) ts.length c ∧ g < w.heap.size ∧ ∀ i t, ts[i]? = some t → w.cell? ⟨g, o + i * 4, none⟩ = some (.int .i64 t.kind) ∧ w.cell? ⟨g, o + i * 4 + 1, none⟩ = some (.string t.text) ∧ w.cell? ⟨g, o + i * 4 + 2, none⟩ = some (.int .i64 t.n) ∧ w.cell? ⟨g, o + i * 4 + 3, none⟩ = some (.int .i64 t.place)
theorem TvAt.below {w w' : World} {v : Value} {ts : List Tv} {B : Nat} (h : TvAt w v ts) (hb : Below B w w') (hB : w.heap.size ≤ B) : TvAt w' v ts := by
  rcases h with h | ⟨g, o, c, hv, hg, h⟩
  · exact .inl h
  · refine .inr ⟨g, o, c, hv, Nat.lt_of_lt_of_le hg hb.size, fun i t ht => ?_⟩
    have hg2 := Nat.lt_of_lt_of_le hg hB
    obtain ⟨h0, h1, h2, h3⟩ := h i t ht
    exact ⟨(hb.cell hg2).trans h0, (hb.cell hg2).trans h1, (hb.cell hg2).trans h2, (hb.cell hg2).trans h3⟩
theorem TvAt.form {w : World} {v : Value} {ts : List Tv} (h : TvAt w v ts) : ∃ a c, v = .slice a ts.length c := by
  rcases h with ⟨rfl, a, c, rfl⟩ | ⟨g, o, c, rfl, -⟩
  · exact ⟨_, _, rfl⟩
  · exact ⟨_, _, rfl⟩
def Lx.tv (S : Nat) (t : Lx.Tok) : Tv := ⟨t.kind, ⟨t.text.toArray⟩, t.n, ((S - t.left : Nat) : Int)⟩
theorem TvAt.of_own {w : World} {B S : Nat} {v : Value} {ts : List Lx.Tok} (h : w.ownsRow B 39 4 v ts.length (ts.flatMap (Lx.cells S))) : TvAt w v (ts.map (Lx.tv S)) := by
  rcases Toks.of_own h with ⟨rfl, rfl⟩ | ⟨g, c, hv, -, hg, h⟩
  · exact .inl ⟨rfl, _, _, rfl⟩
  · refine .inr ⟨g, 0, c, by rw [List.length_map]; exact hv, hg, fun i t ht => ?_⟩
    rw [List.getElem?_map] at ht
    cases ht2 : ts[i]? with
    | none => rw [ht2] at ht; cases ht
    | some t2 =>
      rw [ht2] at ht
      obtain rfl : Lx.tv S t2 = t := by simpa using ht
      have e : 0 + i * 4 = 4 * i + 0 := by omega
      have hf := Lx.flat_at S ts i t2 ht2
      rw [e]
      exact ⟨h _ _ (hf 0 (by decide)), h _ _ (hf 1 (by decide)), h _ _ (hf 2 (by decide)), h _ _ (hf 3 (by decide))⟩

def Tv.eq (a b : Tv) : Bool := decide (a.core = b.core)
def Tv.same (xs ys : List Tv) : Bool := decide (xs.map Tv.core = ys.map Tv.core)
theorem Tv.same_nil : Tv.same [] [] = true := by simp [Tv.same]
theorem Tv.same_cons (a b : Tv) (xs ys : List Tv) : Tv.same (a :: xs) (b :: ys) = (Tv.eq a b && Tv.same xs ys) := by
  unfold Tv.same Tv.eq
  rw [List.map_cons, List.map_cons, Bool.eq_iff_iff]
  simp
theorem Tv.same_len {xs ys : List Tv} (h : xs.length ≠ ys.length) : Tv.same xs ys = false := by
  unfold Tv.same
  rw [decide_eq_false]
  intro e
  have := congrArg List.length e
  simp at this; exact h this
theorem Tv.same_at {xs ys : List Tv} {k : Nat} {x y : Tv} (hx : xs[k]? = some x) (hy : ys[k]? = some y) : Tv.same (xs.drop k) (ys.drop k) = (Tv.eq x y && Tv.same (xs.drop (k + 1)) (ys.drop (k + 1))) := by
  obtain ⟨h1, e1⟩ := List.getElem?_eq_some_iff.1 hx
  obtain ⟨h2, e2⟩ := List.getElem?_eq_some_iff.1 hy
  rw [List.drop_eq_getElem_cons h1, List.drop_eq_getElem_cons h2, e1, e2, Tv.same_cons]

set_option maxHeartbeats 1000000 in
theorem lxEq_any (a b : Tv) (w : World) : Calls Tryd.prog 24 #[.agg #[.int .i64 a.kind, .string a.text, .int .i64 a.n, .int .i64 a.place], .agg #[.int .i64 b.kind, .string b.text, .int .i64 b.n, .int .i64 b.place]] w fun e w' => e = .returned (.bool (Tv.eq a b)) ∧ Below w.heap.size w w' := by
  obtain ⟨k1, t1, n1, p1⟩ := a
  obtain ⟨k2, t2, n2, p2⟩ := b
  have hE : Hid (Tv.eq ⟨k1, t1, n1, p1⟩ ⟨k2, t2, n2, p2⟩ = (decide (k1 = k2) && decide (t1 = t2) && decide (n1 = n2))) := by
    show _ = _
    unfold Tv.eq Tv.core
    rw [Bool.eq_iff_iff]; simp [and_assoc]
  have hs := lxStr_eq t1 t2
  simp only
  by_cases h1 : k1 = k2
  · by_cases h2 : t1 = t2
    · by_cases h3 : n1 = n2
      · subst h1; subst h2; subst h3
        have H : Hid (Tv.eq ⟨k1, t1, n1, p1⟩ ⟨k1, t1, n1, p2⟩ = true) := by show _ = _; rw [hE.out]; simp
        clear hE hs
        go_enter Tryd.func24, Tryd.ntmps24
        go_wp2
        go_ret
        exact ⟨ret_bool H.out.symm, lxBa (lxBa (Below.refl _ _) _) _⟩
      · subst h1; subst h2
        have H : Hid (Tv.eq ⟨k1, t1, n1, p1⟩ ⟨k1, t1, n2, p2⟩ = false) := by show _ = _; rw [hE.out]; simp [h3]
        clear hE hs
        have h4 : (n1 == n2) = false := by rw [beq_eq_false_iff_ne]; exact h3
        go_enter Tryd.func24, Tryd.ntmps24
        go_wp2
        go_ret
        exact ⟨ret_bool (by rw [H.out]), lxBa (lxBa (Below.refl _ _) _) _⟩
    · subst h1
      rw [decide_eq_false h2] at hs
      have H : Hid (Tv.eq ⟨k1, t1, n1, p1⟩ ⟨k1, t2, n2, p2⟩ = false) := by show _ = _; rw [hE.out]; simp [h2]
      clear hE h2
      go_enter Tryd.func24, Tryd.ntmps24
      go_wp2
      go_ret
      exact ⟨ret_bool H.out.symm, lxBa (lxBa (Below.refl _ _) _) _⟩
  · have H : Hid (Tv.eq ⟨k1, t1, n1, p1⟩ ⟨k2, t2, n2, p2⟩ = false) := by show _ = _; rw [hE.out]; simp [h1]
    clear hE hs
    go_enter Tryd.func24, Tryd.ntmps24
    go_wp2
    go_ret
    exact ⟨ret_bool H.out.symm, lxBa (lxBa (Below.refl _ _) _) _⟩

set_option maxHeartbeats 2000000 in
theorem lxEqualFunc_any (v1 v2 : Value) (xs ys : List Tv) (w : World) (h1 : TvAt w v1 xs) (h2 : TvAt w v2 ys) (hx : xs.length ≤ maxLen) (hy : ys.length ≤ maxLen) :
    Calls Tryd.prog 23 #[v1, v2, .func (.func 24) #[] #[]] w fun e w' => e = .returned (.bool (Tv.same xs ys)) ∧ Below w.heap.size w w' := by
  unfold maxLen at hx hy
  by_cases hl : xs.length = ys.length
  · by_cases h0 : ys = []
    · subst h0
      obtain rfl : xs = [] := List.eq_nil_of_length_eq_zero (by simpa using hl)
      obtain ⟨a1, c1, rfl⟩ := h1.form
      obtain ⟨a2, c2, rfl⟩ := h2.form
      clear h1 h2
      go_enter Tryd.func23, Tryd.ntmps23
      go_wp2
      go_loopw [17] (fun v wr => v = .int .i64 0 ∧ wr = w) (fun _ _ => 0)
      case atStart => exact ⟨rfl, rfl⟩
      case round =>
        obtain ⟨rfl, rfl⟩ := hrel
        go_wp2
        go_ret
        exact ⟨ret_bool Tv.same_nil.symm, Below.refl _ _⟩
    · have h0x : ¬ xs = [] := fun e => h0 (List.eq_nil_of_length_eq_zero (by rw [← hl, e]; rfl))
      obtain ⟨g1, o1, c1, rfl, hg1, k1⟩ := h1.resolve_left (fun h => h0x h.1)
      obtain ⟨g2, o2, c2, rfl, hg2, k2⟩ := h2.resolve_left (fun h => h0 h.1)
      have HL : Hid (xs.length = ys.length) := hl
      have hw2 : ys.length = xs.length := hl.symm
      rw [hw2]
      clear h1 h2 hl h0 h0x hy hw2
      go_enter Tryd.func23, Tryd.ntmps23
      go_wp2
      go_loopw [17] (fun v wr => ∃ k : Nat, v = .int .i64 k ∧ k ≤ xs.length ∧ Hid (Tv.same xs ys = Tv.same (xs.drop k) (ys.drop k)) ∧ Below w.heap.size w wr) (fun v _ => xs.length - (intOf v).toNat)
      case atStart => exact ⟨0, rfl, Nat.zero_le _, rfl, Below.refl _ _⟩
      case round =>
        obtain ⟨k, rfl, hk, hH, hB⟩ := hrel
        by_cases hlt : k < xs.length
        · obtain ⟨x, hxk⟩ : ∃ x, xs[k]? = some x := ⟨_, List.getElem?_eq_getElem hlt⟩
          obtain ⟨y, hyk⟩ : ∃ y, ys[k]? = some y := ⟨_, List.getElem?_eq_getElem (by rw [← HL.out]; exact hlt)⟩
          obtain ⟨x0, x1, x2, x3⟩ := k1 k x hxk
          obtain ⟨y0, y1, y2, y3⟩ := k2 k y hyk
          rw [← hB.cell hg1] at x0 x1 x2 x3
          rw [← hB.cell hg2] at y0 y1 y2 y3
          have hgw : g2 < wr.heap.size := Nat.lt_of_lt_of_le hg2 hB.size
          have z0 : ∀ o, (wr.alloc o).cell? ⟨g2, o2 + k * 4, none⟩ = some (.int .i64 y.kind) := fun o => (((Below.refl _ _).alloc (Nat.le_refl _) o).cell hgw).trans y0
          have z1 : ∀ o, (wr.alloc o).cell? ⟨g2, o2 + k * 4 + 1, none⟩ = some (.string y.text) := fun o => (((Below.refl _ _).alloc (Nat.le_refl _) o).cell hgw).trans y1
          have z2 : ∀ o, (wr.alloc o).cell? ⟨g2, o2 + k * 4 + 2, none⟩ = some (.int .i64 y.n) := fun o => (((Below.refl _ _).alloc (Nat.le_refl _) o).cell hgw).trans y2
          have z3 : ∀ o, (wr.alloc o).cell? ⟨g2, o2 + k * 4 + 3, none⟩ = some (.int .i64 y.place) := fun o => (((Below.refl _ _).alloc (Nat.le_refl _) o).cell hgw).trans y3
          clear y0 y1 y2 y3
          have hH2 := hH.out
          rw [Tv.same_at hxk hyk] at hH2
          have hq := lxEq_any x y
          clear hH hxk hyk k1 k2
          cases he : Tv.eq x y with
          | true =>
            rw [he, Bool.true_and] at hH2
            have HX : Hid (Tv.same xs ys = Tv.same (xs.drop (k + 1)) (ys.drop (k + 1))) := hH2
            rw [he] at hq
            clear hH2 he
            go_wp2_with (go_at_call 24; refine (hq _).mono ?_; rintro e w2 ⟨rfl, hb2⟩)
            go_roundw
            case rel => exact ⟨k + 1, by go_num, by omega, HX, lxTr (lxBa (lxBa hB _) _) hb2⟩
            case measure => simp [intOf]; omega
          | false =>
            rw [he, Bool.false_and] at hH2
            have HX : Hid (Tv.same xs ys = false) := hH2
            rw [he] at hq
            clear hH2 he
            go_wp2_with (go_at_call 24; refine (hq _).mono ?_; rintro e w2 ⟨rfl, hb2⟩)
            go_ret
            exact ⟨ret_bool HX.out.symm, lxTr (lxBa (lxBa hB _) _) hb2⟩
        · have HX : Hid (Tv.same xs ys = true) := by
            show _ = _
            rw [hH.out, List.drop_eq_nil_of_le (by omega), List.drop_eq_nil_of_le (by have := HL.out; omega)]; exact Tv.same_nil
          clear hH k1 k2
          go_wp2
          go_ret
          exact ⟨ret_bool HX.out.symm, hB⟩
  · have H : Hid (Tv.same xs ys = false) := Tv.same_len hl
    obtain ⟨a1, c1, rfl⟩ := h1.form
    obtain ⟨a2, c2, rfl⟩ := h2.form
    have hl2 : ¬ ((xs.length : Int) = (ys.length : Int)) := by omega
    clear h1 h2 hl
    go_enter Tryd.func23, Tryd.ntmps23
    go_wp2
    go_ret
    exact ⟨ret_bool H.out.symm, Below.refl _ _⟩

theorem lxSame_any (v1 v2 : Value) (xs ys : List Tv) (w : World) (h1 : TvAt w v1 xs) (h2 : TvAt w v2 ys) (hx : xs.length ≤ maxLen) (hy : ys.length ≤ maxLen) :
    Calls Tryd.prog 16 #[v1, v2] w fun e w' => e = .returned (.bool (Tv.same xs ys)) ∧ Below w.heap.size w w' := by
  go_enter Tryd.func16, Tryd.ntmps16
  go_wp2_with (go_at_call 23; refine (lxEqualFunc_any _ _ _ _ _ h1 h2 hx hy).mono ?_; rintro e w2 ⟨rfl, hb2⟩)
  go_ret
  exact ⟨rfl, hb2⟩
end Go.Proofs.YtfjcnncpmhfbnaaDoor
