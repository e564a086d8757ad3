/- What the document's Cmp, Put and Set come to. -/
import Derived.Deep.QuietTactic
import Derived.BigQuiet
import Derived.Test.YtcccmbiocknknaaDoorSet2
import Derived.Test.YtcccmbiocknknaaDoorRefSplit
namespace Go.Proofs.YtcccmbiocknknaaDoor
open Go.RowKit Go.Shelf
set_option linter.unusedVariables false

theorem nm_below {w w' : World} {base : Nat} {e : TypeId} {size : Nat} {v : Value} {n : Nat} {xs : List Value} (h : w.ownsRow base e size v n xs) (hb : Below w.heap.size w w') : w'.ownsRow base e size v n xs :=
  h.kept (row := none) ⟨hb.os, hb.tape, hb.output, hb.size, fun k hk _ => hb.block k hk⟩ (by cases hv : v.ownBlock <;> simp)
theorem nm_form {w : World} {base : Nat} {e : TypeId} {size : Nat} {v : Value} {n : Nat} {xs : List Value} (h : w.ownsRow base e size v n xs) : ∃ a c, v = .slice a n c := by
  rcases h.2 with ⟨rfl, hn⟩ | ⟨g, cap, cur, rfl, rest⟩
  · exact ⟨none, 0, by rw [hn]⟩
  · exact ⟨_, _, rfl⟩
theorem Strs.form {w : World} {v : Value} {xs : List ByteArray} (h : Strs w v xs) : ∃ a c, v = .slice a xs.length c := by
  rcases h with ⟨b, o, c, rfl, _⟩ | ⟨rfl, p, c, rfl⟩
  · exact ⟨_, _, rfl⟩
  · exact ⟨_, _, rfl⟩
/-- Only the world's draws have gone on. -/
def Drew (w w' : World) : Prop := ∃ n, w' = w.drewN n
theorem Drew.refl (w : World) : Drew w w := ⟨0, rfl⟩
theorem Drew.on {w w' : World} (h : Drew w w') (n : Nat) : Drew w (w'.drewN n) := by obtain ⟨m, rfl⟩ := h; exact ⟨m + n, World.drewN_drewN _ _ _⟩
theorem Drew.below {w w' : World} (h : Drew w w') : Below w.heap.size w w' := by obtain ⟨m, rfl⟩ := h; exact bdN (Below.refl _ _) _
theorem Nm.cmp_at (a b : ByteArray) (k : Nat) (ha : k < a.size) (hb : k < b.size) : Lib.compareBytes (a.data.toList.drop k) (b.data.toList.drop k) =
    if (a[k].toNat : Int) < (b[k].toNat : Int) then -1 else if (b[k].toNat : Int) < (a[k].toNat : Int) then 1 else Lib.compareBytes (a.data.toList.drop (k + 1)) (b.data.toList.drop (k + 1)) := by
  have e1 : (a[k] < b[k]) ↔ (a[k].toNat : Int) < (b[k].toNat : Int) := by rw [UInt8.lt_iff_toNat_lt]; omega
  have e2 : (b[k] < a[k]) ↔ (b[k].toNat : Int) < (a[k].toNat : Int) := by rw [UInt8.lt_iff_toNat_lt]; omega
  rw [Nm.drop_cons a k ha, Nm.drop_cons b k hb, Lib.compareBytes]
  simp only [e1, e2]

set_option maxHeartbeats 2000000 in
theorem refCmp_any (a b : ByteArray) (ha : a.size ≤ 9223372036854775807) (hb : b.size ≤ 9223372036854775807) (w : World) : Calls Tryd.prog 25 #[.string a, .string b] w fun e w' => e = .returned (.int .i64 (Lib.compareBytes a.data.toList b.data.toList)) ∧ Drew w w' := by
  go_enter Tryd.func25, Tryd.ntmps25
  go_wp2
  go_loopw [5] (fun iv wr => ∃ k : Nat, iv = .int .i64 k ∧ k ≤ a.size ∧ k ≤ b.size ∧ Hid (Lib.compareBytes a.data.toList b.data.toList = Lib.compareBytes (a.data.toList.drop k) (b.data.toList.drop k)) ∧ Drew w wr) (fun iv _ => a.size - (intOf iv).toNat)
  case atStart => exact ⟨0, rfl, Nat.zero_le _, Nat.zero_le _, rfl, Drew.refl _⟩
  case round =>
    obtain ⟨k, rfl, hka, hkb, hx, hD⟩ := hrel
    by_cases h1 : k < a.size
    · by_cases h2 : k < b.size
      · have hx2 := hx.out
        rw [Nm.cmp_at a b k h1 h2] at hx2
        obtain ⟨x, hxa⟩ : ∃ x : Int, (a[k].toNat : Int) = x := ⟨_, rfl⟩
        obtain ⟨y, hyb⟩ : ∃ y : Int, (b[k].toNat : Int) = y := ⟨_, rfl⟩
        rw [hxa, hyb] at hx2
        clear hx
        by_cases c1 : x < y
        · rw [if_pos c1] at hx2
          have HX : Hid (Lib.compareBytes a.data.toList b.data.toList = -1) := hx2
          have d1 : decide (x < y) = true := decide_eq_true c1
          clear hx2
          go_wp2
          go_big_quiet (fail)
          go_wp2
          go_ret
          exact ⟨ret_int HX.out.symm, by first | exact hD.on _ | exact (hD.on _).on _⟩
        · rw [if_neg c1] at hx2
          have d1 : decide (x < y) = false := decide_eq_false c1
          by_cases c2 : y < x
          · rw [if_pos c2] at hx2
            have HX : Hid (Lib.compareBytes a.data.toList b.data.toList = 1) := hx2
            have d2 : decide (y < x) = true := decide_eq_true c2
            clear hx2
            go_wp2
            go_big_quiet (fail)
            go_wp2
            go_big_quiet (fail)
            go_wp2
            go_ret
            exact ⟨ret_int HX.out.symm, by first | exact hD.on _ | exact (hD.on _).on _⟩
          · rw [if_neg c2] at hx2
            have HX : Hid (Lib.compareBytes a.data.toList b.data.toList = Lib.compareBytes (a.data.toList.drop (k + 1)) (b.data.toList.drop (k + 1))) := hx2
            have d2 : decide (y < x) = false := decide_eq_false c2
            clear hx2
            go_wp2
            go_big_quiet (fail)
            go_wp2
            go_big_quiet (fail)
            go_wp2
            go_roundw
            case rel => exact ⟨k + 1, by go_num, by omega, by omega, HX, by first | exact hD.on _ | exact (hD.on _).on _⟩
            case measure => simp [intOf]; omega
      · have hbe : b.size = k := by omega
        have hlt : b.size < a.size := by omega
        have HX : Hid (Lib.compareBytes a.data.toList b.data.toList = 1) := by
          show _ = _
          rw [hx.out, show b.data.toList.drop k = [] from List.drop_eq_nil_of_le (by rw [Nm.len]; omega), Nm.drop_cons a k h1]; rfl
        have hlt2 : (b.size : Int) < (a.size : Int) := by omega
        have hlt3 : ¬ ((a.size : Int) < (b.size : Int)) := by omega
        clear hx hbe
        go_wp2
        go_ret
        exact ⟨ret_int HX.out.symm, hD⟩
    · have hae : a.size = k := by omega
      by_cases h2 : k < b.size
      · have HX : Hid (Lib.compareBytes a.data.toList b.data.toList = -1) := by
          show _ = _
          rw [hx.out, show a.data.toList.drop k = [] from List.drop_eq_nil_of_le (by rw [Nm.len]; omega), Nm.drop_cons b k h2]; rfl
        have hlt2 : (a.size : Int) < (b.size : Int) := by omega
        clear hx hae
        go_wp2
        go_ret
        exact ⟨ret_int HX.out.symm, hD⟩
      · have HX : Hid (Lib.compareBytes a.data.toList b.data.toList = 0) := by
          show _ = _
          rw [hx.out, show a.data.toList.drop k = [] from List.drop_eq_nil_of_le (by rw [Nm.len]; omega), show b.data.toList.drop k = [] from List.drop_eq_nil_of_le (by rw [Nm.len]; omega)]; rfl
        have hlt2 : ¬ ((a.size : Int) < (b.size : Int)) := by omega
        have hlt3 : ¬ ((b.size : Int) < (a.size : Int)) := by omega
        clear hx hae
        go_wp2
        go_ret
        exact ⟨ret_int HX.out.symm, hD⟩

/-- A set with a text more. -/
def Nm.put (s : ByteArray) : List ByteArray → List ByteArray
  | [] => [s]
  | y :: r => if Lib.compareBytes s.data.toList y.data.toList = 0 then y :: r else if Lib.compareBytes s.data.toList y.data.toList = -1 then s :: y :: r else y :: Nm.put s r
theorem Nm.put_cons (s y : ByteArray) (r : List ByteArray) : Nm.put s (y :: r) = if Lib.compareBytes s.data.toList y.data.toList = 0 then y :: r else if Lib.compareBytes s.data.toList y.data.toList = -1 then s :: y :: r else y :: Nm.put s r := rfl
theorem Nm.put_len (s : ByteArray) : ∀ l, (Nm.put s l).length ≤ l.length + 1
  | [] => Nat.le_refl _
  | y :: r => by
    unfold Nm.put
    split
    · simp
    · split
      · simp
      · have := Nm.put_len s r; simp; omega
theorem Nm.put_mem (s x : ByteArray) : ∀ l, x ∈ Nm.put s l ↔ x = s ∨ x ∈ l
  | [] => by simp [Nm.put]
  | y :: r => by
    unfold Nm.put
    split
    · next h =>
      have e : s = y := by have := Nm.cmp_eq h; cases s; cases y; congr 1; exact Array.toList_inj.1 this
      subst e; simp
    · split
      · simp
      · rw [List.mem_cons, Nm.put_mem s x r, List.mem_cons]
        constructor
        · rintro (h | h | h)
          · exact .inr (.inl h)
          · exact .inl h
          · exact .inr (.inr h)
        · rintro (h | h | h)
          · exact .inr (.inl h)
          · exact .inl h
          · exact .inr (.inr h)
theorem Nm.put_asc (s : ByteArray) : ∀ l : List ByteArray, (l.Pairwise fun a b => Lib.compareBytes a.data.toList b.data.toList = -1) → (Nm.put s l).Pairwise fun a b => Lib.compareBytes a.data.toList b.data.toList = -1
  | [], _ => by simp [Nm.put]
  | y :: r, h => by
    obtain ⟨h1, h2⟩ := List.pairwise_cons.1 h
    unfold Nm.put
    split
    · exact h
    · next c0 =>
      split
      · next c1 =>
        refine List.pairwise_cons.2 ⟨fun b hb => ?_, h⟩
        rcases List.mem_cons.1 hb with rfl | hb
        · exact c1
        · exact Nm.cmp_trans c1 (h1 b hb)
      · next c1 =>
        refine List.pairwise_cons.2 ⟨fun b hb => ?_, Nm.put_asc s r h2⟩
        rcases (Nm.put_mem s b r).1 hb with rfl | hb
        · have e := Nm.cmp_swap b.data.toList y.data.toList
          rcases Nm.cmp_three b.data.toList y.data.toList with k | k | k
          · exact absurd k c1
          · exact absurd k c0
          · omega
        · exact h1 b hb

set_option maxRecDepth 100000 in
set_option maxHeartbeats 4000000 in
theorem refPut_any (v : Value) (ys : List ByteArray) (s : ByteArray) (w : World) (hv : Strs w v ys) (hl : (ys.length + 1) * 16 ≤ 140737488355328) (hs : s.size ≤ 9223372036854775807) (hys : ∀ y, y ∈ ys → y.size ≤ 9223372036854775807) :
    Calls Tryd.prog 51 #[v, .string s] w fun e W' => (∃ v', e = .returned v' ∧ W'.ownsRow w.heap.size 9 1 v' (Nm.put s ys).length ((Nm.put s ys).map Value.string)) ∧ Below w.heap.size w W' := by
  obtain ⟨i0, hi, hz0, hz1, hz2⟩ := info_parts info_string
  obtain ⟨va, vc, hvf⟩ := hv.form
  have HV : Hid (Strs w v ys) := hv
  have HY : Hid (∀ y, y ∈ ys → y.size ≤ 9223372036854775807) := hys
  subst hvf
  clear hv hys
  go_enter Tryd.func51, Tryd.ntmps51
  go_wp2
  go_loopw [5, 6, 7] (fun ov dv iv wr => ∃ (k : Nat) (pre : List ByteArray) (dn : Bool), iv = .int .i64 k ∧ dv = .bool dn ∧ k ≤ ys.length ∧ pre.length ≤ k + 1 ∧ (dn = false → pre.length = k) ∧ Hid (Nm.put s ys = pre ++ (if dn then ys.drop k else Nm.put s (ys.drop k))) ∧ wr.ownsRow w.heap.size 9 1 ov pre.length (pre.map Value.string) ∧ Below w.heap.size w wr) (fun _ _ iv _ => ys.length - (intOf iv).toNat)
  case atStart => exact ⟨0, [], false, rfl, rfl, Nat.zero_le _, by simp, fun _ => rfl, rfl, World.ownsRow_nil _ _ _ _, Below.refl _ _⟩
  case round =>
    obtain ⟨k, pre, dn, rfl, rfl, hk, hpl, hpd, hx, hrow, hB⟩ := hrel
    obtain ⟨g, cap, hform⟩ := nm_form hrow
    subst hform
    by_cases hlt : k < ys.length
    · obtain ⟨y, hy⟩ : ∃ y, ys[k]? = some y := ⟨_, List.getElem?_eq_getElem hlt⟩
      have hd : ys.drop k = y :: ys.drop (k + 1) := by
        obtain ⟨q1, e1⟩ := List.getElem?_eq_some_iff.1 hy
        rw [List.drop_eq_getElem_cons q1, e1]
      have hysz := HY.out y (List.mem_of_getElem? hy)
      obtain ⟨b, o, c, hv2, hc0⟩ : ∃ b o c, Value.slice va ys.length vc = .slice (some ⟨b, o, none⟩) ys.length c ∧ w.cell? ⟨b, o + k, none⟩ = some (.string y) := by
        rcases HV.out with ⟨b, o, c, e, h⟩ | ⟨e, _⟩
        · exact ⟨b, o, c, e, h k y hy⟩
        · rw [e] at hlt; simp at hlt
      obtain ⟨rfl, rfl⟩ : va = some ⟨b, o, none⟩ ∧ vc = c := by injection hv2 with e1 e2 e3; exact ⟨e1, e3⟩
      have hcmp := fun w => refCmp_any s y hs hysz w
      clear hv2 HV HY
      have hc : wr.cell? ⟨b, o + k, none⟩ = some (.string y) := (hB.cell (World.block_lt_of_cell? _ _ hc0)).trans hc0
      have hbr : b < wr.heap.size := World.block_lt_of_cell? _ _ hc
      have hcw : w.cell? ⟨b, o + k, none⟩ = some (.string y) := hc0
      have hbw : b < w.heap.size := World.block_lt_of_cell? _ _ hcw
      have hx2 := hx.out
      rw [hd] at hx2
      clear hx hd hy hc0
      cases dn with
      | true =>
        have HX : Hid (Nm.put s ys = (pre ++ [y]) ++ (if (true : Bool) then ys.drop (k + 1) else Nm.put s (ys.drop (k + 1)))) := by
          show _ = _
          rw [hx2, if_pos rfl, if_pos rfl, List.append_assoc]; rfl
        clear hx2 hpd
        rcases Nm.cmp_three s.data.toList y.data.toList with e | e | e
        · rw [e] at hcmp
          clear e
          go_wp2_with (first | (go_at_call 25; refine (hcmp _).mono ?_; rintro e w2 ⟨rfl, hDr⟩; have hb2 := hDr.below; have hrow2 := nm_below hrow hb2; have hB2 := btr hB hb2; have hc2 : w2.cell? ⟨b, o + k, none⟩ = some (.string y) := (hb2.cell hbr).trans hc) | (at_builtin; refine wpList_append_own _ rfl _ _ 22 rfl w.heap.size 9 i0 (.string ⟨#[]⟩) 1 16 Tryd.underlying22 hi hz0 hz1 hz2 rfl (by decide) _ _ _ rfl (hrow2.alloc _) ⟨w2.heap.size, 0, none⟩ 1 1 [.string y] rfl rfl (cell_one_new _ _ _) (by simp [Value.oneCell']) (by unfold maxLen; omega) (by omega) (by have := hB2.size; simp; omega) ?_; intro v' w4 hown' hgrow _))
          go_roundw
          case rel => exact ⟨k + 1, pre ++ [y], true, by go_num, rfl, by omega, by rw [List.length_append]; show pre.length + 1 ≤ _; omega, (fun h => by cases h), HX, by simpa using hown', (hB2.alloc hB2.size _).grown hgrow (by have := hB2.size; simp; omega) (own_block hrow2)⟩
          case measure => simp [intOf]; omega
        · rw [e] at hcmp
          clear e
          go_wp2_with (first | (go_at_call 25; refine (hcmp _).mono ?_; rintro e w2 ⟨rfl, hDr⟩; have hb2 := hDr.below; have hrow2 := nm_below hrow hb2; have hB2 := btr hB hb2; have hc2 : w2.cell? ⟨b, o + k, none⟩ = some (.string y) := (hb2.cell hbr).trans hc) | (at_builtin; refine wpList_append_own _ rfl _ _ 22 rfl w.heap.size 9 i0 (.string ⟨#[]⟩) 1 16 Tryd.underlying22 hi hz0 hz1 hz2 rfl (by decide) _ _ _ rfl (hrow2.alloc _) ⟨w2.heap.size, 0, none⟩ 1 1 [.string y] rfl rfl (cell_one_new _ _ _) (by simp [Value.oneCell']) (by unfold maxLen; omega) (by omega) (by have := hB2.size; simp; omega) ?_; intro v' w4 hown' hgrow _))
          go_roundw
          case rel => exact ⟨k + 1, pre ++ [y], true, by go_num, rfl, by omega, by rw [List.length_append]; show pre.length + 1 ≤ _; omega, (fun h => by cases h), HX, by simpa using hown', (hB2.alloc hB2.size _).grown hgrow (by have := hB2.size; simp; omega) (own_block hrow2)⟩
          case measure => simp [intOf]; omega
        · rw [e] at hcmp
          clear e
          go_wp2_with (first | (go_at_call 25; refine (hcmp _).mono ?_; rintro e w2 ⟨rfl, hDr⟩; have hb2 := hDr.below; have hrow2 := nm_below hrow hb2; have hB2 := btr hB hb2; have hc2 : w2.cell? ⟨b, o + k, none⟩ = some (.string y) := (hb2.cell hbr).trans hc) | (at_builtin; refine wpList_append_own _ rfl _ _ 22 rfl w.heap.size 9 i0 (.string ⟨#[]⟩) 1 16 Tryd.underlying22 hi hz0 hz1 hz2 rfl (by decide) _ _ _ rfl (hrow2.alloc _) ⟨w2.heap.size, 0, none⟩ 1 1 [.string y] rfl rfl (cell_one_new _ _ _) (by simp [Value.oneCell']) (by unfold maxLen; omega) (by omega) (by have := hB2.size; simp; omega) ?_; intro v' w4 hown' hgrow _))
          go_roundw
          case rel => exact ⟨k + 1, pre ++ [y], true, by go_num, rfl, by omega, by rw [List.length_append]; show pre.length + 1 ≤ _; omega, (fun h => by cases h), HX, by simpa using hown', (hB2.alloc hB2.size _).grown hgrow (by have := hB2.size; simp; omega) (own_block hrow2)⟩
          case measure => simp [intOf]; omega
      | false =>
        rw [if_neg (by simp), Nm.put_cons] at hx2
        have HPK : Hid (pre.length = k) := hpd rfl
        have hpk : pre.length ≤ k := Nat.le_of_eq (hpd rfl)
        clear hpd
        rcases Nm.cmp_three s.data.toList y.data.toList with e | e | e
        · rw [e] at hcmp
          rw [if_neg (by rw [e]; decide), if_pos e] at hx2
          have HX : Hid (Nm.put s ys = (pre ++ [s] ++ [y]) ++ (if (true : Bool) then ys.drop (k + 1) else Nm.put s (ys.drop (k + 1)))) := by
            show _ = _
            rw [hx2, if_pos rfl, List.append_assoc, List.append_assoc]; rfl
          clear hx2 e
          go_wp2_with (first | (go_at_call 25; refine (hcmp _).mono ?_; rintro e w2 ⟨rfl, hDr⟩; have hb2 := hDr.below; have hrow2 := nm_below hrow hb2; have hB2 := btr hB hb2; have hc2 : w2.cell? ⟨b, o + k, none⟩ = some (.string y) := (hb2.cell hbr).trans hc) | (at_builtin; have _ := m1; refine wpList_append_own _ rfl _ _ 22 rfl w.heap.size 9 i0 (.string ⟨#[]⟩) 1 16 Tryd.underlying22 hi hz0 hz1 hz2 rfl (by decide) _ _ _ rfl (hown3.alloc _) ⟨w3.heap.size, 0, none⟩ 1 1 [.string y] rfl rfl (cell_one_new _ _ _) (by simp [Value.oneCell']) (by unfold maxLen; omega) (by omega) (by have := hB3.size; simp; omega) ?_; intro v' w4 hown' hgrow _) | (at_builtin; refine wpList_append_own _ rfl _ _ 22 rfl w.heap.size 9 i0 (.string ⟨#[]⟩) 1 16 Tryd.underlying22 hi hz0 hz1 hz2 rfl (by decide) _ _ _ rfl (hrow2.alloc _) ⟨w2.heap.size, 0, none⟩ 1 1 [.string s] rfl rfl (cell_one_new _ _ _) (by simp [Value.oneCell']) (by unfold maxLen; omega) (by omega) (by have := hB2.size; simp; omega) ?_; intro v3 w3 hown3 hgrow3 _; have m1 := True.intro; have hB3 : Below w.heap.size w w3 := (hB2.alloc hB2.size _).grown hgrow3 (by have := hB2.size; simp; omega) (own_block hrow2); have hc3 : w3.cell? ⟨b, o + k, none⟩ = some (.string y) := (hB3.cell hbw).trans hcw; obtain ⟨g3, cap3, hf3⟩ := nm_form hown3; subst hf3))
          go_roundw
          case rel => exact ⟨k + 1, pre ++ [s] ++ [y], true, by go_num, rfl, by omega, by rw [List.length_append, List.length_append]; show pre.length + 1 + 1 ≤ _; omega, (fun h => by cases h), HX, by simpa using hown', (hB3.alloc hB3.size _).grown hgrow (by have := hB3.size; simp; omega) (own_block hown3)⟩
          case measure => simp [intOf]; omega
        · rw [e] at hcmp
          rw [if_pos e] at hx2
          have HX : Hid (Nm.put s ys = (pre ++ [y]) ++ (if (true : Bool) then ys.drop (k + 1) else Nm.put s (ys.drop (k + 1)))) := by
            show _ = _
            rw [hx2, if_pos rfl, List.append_assoc]; rfl
          clear hx2 e
          go_wp2_with (first | (go_at_call 25; refine (hcmp _).mono ?_; rintro e w2 ⟨rfl, hDr⟩; have hb2 := hDr.below; have hrow2 := nm_below hrow hb2; have hB2 := btr hB hb2; have hc2 : w2.cell? ⟨b, o + k, none⟩ = some (.string y) := (hb2.cell hbr).trans hc) | (at_builtin; refine wpList_append_own _ rfl _ _ 22 rfl w.heap.size 9 i0 (.string ⟨#[]⟩) 1 16 Tryd.underlying22 hi hz0 hz1 hz2 rfl (by decide) _ _ _ rfl (hrow2.alloc _) ⟨w2.heap.size, 0, none⟩ 1 1 [.string y] rfl rfl (cell_one_new _ _ _) (by simp [Value.oneCell']) (by unfold maxLen; omega) (by omega) (by have := hB2.size; simp; omega) ?_; intro v' w4 hown' hgrow _))
          go_roundw
          case rel => exact ⟨k + 1, pre ++ [y], true, by go_num, rfl, by omega, by rw [List.length_append]; show pre.length + 1 ≤ _; omega, (fun h => by cases h), HX, by simpa using hown', (hB2.alloc hB2.size _).grown hgrow (by have := hB2.size; simp; omega) (own_block hrow2)⟩
          case measure => simp [intOf]; omega
        · rw [e] at hcmp
          rw [if_neg (by rw [e]; decide), if_neg (by rw [e]; decide)] at hx2
          have HX : Hid (Nm.put s ys = (pre ++ [y]) ++ (if (false : Bool) then ys.drop (k + 1) else Nm.put s (ys.drop (k + 1)))) := by
            show _ = _
            rw [hx2, if_neg (by simp), List.append_assoc]; rfl
          clear hx2 e
          go_wp2_with (first | (go_at_call 25; refine (hcmp _).mono ?_; rintro e w2 ⟨rfl, hDr⟩; have hb2 := hDr.below; have hrow2 := nm_below hrow hb2; have hB2 := btr hB hb2; have hc2 : w2.cell? ⟨b, o + k, none⟩ = some (.string y) := (hb2.cell hbr).trans hc) | (at_builtin; refine wpList_append_own _ rfl _ _ 22 rfl w.heap.size 9 i0 (.string ⟨#[]⟩) 1 16 Tryd.underlying22 hi hz0 hz1 hz2 rfl (by decide) _ _ _ rfl (hrow2.alloc _) ⟨w2.heap.size, 0, none⟩ 1 1 [.string y] rfl rfl (cell_one_new _ _ _) (by simp [Value.oneCell']) (by unfold maxLen; omega) (by omega) (by have := hB2.size; simp; omega) ?_; intro v' w4 hown' hgrow _))
          go_roundw
          case rel => exact ⟨k + 1, pre ++ [y], false, by go_num, rfl, by omega, by rw [List.length_append]; show pre.length + 1 ≤ _; omega, (fun _ => by rw [List.length_append, HPK.out]; rfl), HX, by simpa using hown', (hB2.alloc hB2.size _).grown hgrow (by have := hB2.size; simp; omega) (own_block hrow2)⟩
          case measure => simp [intOf]; omega
    · have hk2 : k = ys.length := by omega
      have hx2 := hx.out
      rw [List.drop_eq_nil_of_le (by omega)] at hx2
      clear HV HY hx
      cases dn with
      | true =>
        rw [if_pos rfl, List.append_nil] at hx2
        have HX : Hid (Nm.put s ys = pre) := hx2
        clear hx2 hpd
        go_wp2
        go_ret
        exact ⟨⟨_, rfl, by rw [HX.out]; exact hrow⟩, hB⟩
      | false =>
        rw [if_neg (by simp)] at hx2
        have HX : Hid (Nm.put s ys = pre ++ [s]) := hx2
        have HPK : Hid (pre.length = k) := hpd rfl
        have hpk : pre.length ≤ k := Nat.le_of_eq (hpd rfl)
        clear hpd
        clear hx2
        go_wp2_with (at_builtin; refine wpList_append_own _ rfl _ _ 22 rfl w.heap.size 9 i0 (.string ⟨#[]⟩) 1 16 Tryd.underlying22 hi hz0 hz1 hz2 rfl (by decide) _ _ _ rfl (hrow.alloc _) ⟨wr.heap.size, 0, none⟩ 1 1 [.string s] rfl rfl (cell_one_new _ _ _) (by simp [Value.oneCell']) (by unfold maxLen; omega) (by omega) (by have := hB.size; simp; omega) ?_; intro v' w4 hown' hgrow _)
        go_ret
        exact ⟨⟨_, rfl, by rw [HX.out, List.length_append]; simpa using hown'⟩, (hB.alloc hB.size _).grown hgrow (by have := hB.size; simp; omega) (own_block hrow)⟩
end Go.Proofs.YtcccmbiocknknaaDoor
