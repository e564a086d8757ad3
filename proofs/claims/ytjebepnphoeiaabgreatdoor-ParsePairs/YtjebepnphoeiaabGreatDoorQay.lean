/- Pieces: NdX0 NdX4 NdX5. -/
import Derived.Test.YtjebepnphoeiaabGreatDoorQal
import Derived.BigRegion
namespace Go.Proofs.YtjebepnphoeiaabGreatDoor
open Go.RowKit
set_option linter.unusedVariables false

set_option maxHeartbeats 8000000 in
set_option maxRecDepth 100000 in
theorem refSame0 (n : Nat) (q0 : RefSameOf 28 n 0) : RefSameOf 28 (n + 1) 0 := by
 intro w v1 v2 xs ys h1 h2
 obtain ⟨a1, c1, e1, hx⟩ := h1.form
 obtain ⟨a2, c2, e2, hy⟩ := h2.form
 unfold maxLen at hx hy
 by_cases hl : xs.length = ys.length
 ·
  by_cases h0 : ys = []
  ·
   subst h0
   obtain rfl : xs = [] := List.eq_nil_of_length_eq_zero (by simpa using hl)
   subst e1; subst e2
   clear h1 h2 q0
   go_enter Tryz.func28, Tryz.ntmps28
   go_wp2
   go_loopw [5] (fun v wr => v = .int .i64 0 ∧ wr = w) (fun _ _ => 0)
   case atStart => exact ⟨rfl, rfl⟩
   case round =>
    obtain ⟨rfl, rfl⟩ := hrel
    go_wp2
    go_ret
    exact ⟨ret_bool Nd.eqL_nil.symm, Below.refl _ _⟩
  ·
   have h0x : ¬ xs = [] := fun e => h0 (List.eq_nil_of_length_eq_zero (by rw [← hl, e]; rfl))
   clear e1 e2
   obtain ⟨g1, o1, c1, rfl, -, -, -, k1⟩ := h1.resolve_right (fun h => h0x h.1)
   obtain ⟨g2, o2, c2, rfl, -, -, -, k2⟩ := h2.resolve_right (fun h => h0 h.1)
   have HL : Hid (xs.length = ys.length) := hl
   have hw2 : ys.length = xs.length := hl.symm
   rw [hw2]
   clear h1 h2 hl h0 h0x hy hw2
   go_enter Tryz.func28, Tryz.ntmps28
   go_wp2
   go_loopw [5] (fun v wr => ∃ k : Nat, v = .int .i64 k ∧ k ≤ xs.length ∧ Hid (Nd.eqL xs ys = Nd.eqL (xs.drop k) (ys.drop k)) ∧ Below w.heap.size w wr) (fun v _ => xs.length - (intOf v).toNat)
   case atStart => exact ⟨0, rfl, Nat.zero_le _, rfl, Below.refl _ _⟩
   case round =>
    obtain ⟨k, rfl, hk, hH, hB⟩ := hrel
    by_cases hlt : k < xs.length
    ·
     obtain ⟨x, hxk⟩ : ∃ x, xs[k]? = some x := ⟨_, List.getElem?_eq_getElem hlt⟩
     obtain ⟨y, hyk⟩ : ∃ y, ys[k]? = some y := ⟨_, List.getElem?_eq_getElem (by rw [← HL.out]; exact hlt)⟩
     obtain ⟨va, -, ca, ta⟩ := k1 k x hxk
     obtain ⟨vb, -, cb, tb⟩ := k2 k y hyk
     replace ca := ca.move trivial (Keeps.of_below (K := Any) hB)
     replace cb := cb.move trivial (Keeps.of_below (K := Any) hB)
     replace ta := At.move (Keeps.of_below hB) (fun _ h => h) _ _ _ _ ta
     replace tb := At.move (Keeps.of_below hB) (fun _ h => h) _ _ _ _ tb
     obtain ⟨i0a, s1a, p2a, x2a, v0a, l0a, rfl, rfl, -, -, ⟨tx2a, -, ln2a⟩, k0a⟩ := At.ty ta
     obtain ⟨i0b, s1b, p2b, x2b, v0b, l0b, rfl, rfl, -, -, ⟨tx2b, -, ln2b⟩, k0b⟩ := At.ty tb
     clear ta tb k1 k2
     have TX2a : Hid (∀ w', Below wr.heap.size wr w' → Strs w' p2a x2a) := fun w' h' => (tx2a.move (Keeps.of_below h') (fun _ h => h)).strs
     obtain ⟨pa2a, pc2a, rfl⟩ := tx2a.form
     clear tx2a
     have TX2b : Hid (∀ w', Below wr.heap.size wr w' → Strs w' p2b x2b) := fun w' h' => (tx2b.move (Keeps.of_below h') (fun _ h => h)).strs
     obtain ⟨pa2b, pc2b, rfl⟩ := tx2b.form
     clear tx2b
     have R0 : Hid (∀ w', Below wr.heap.size wr w' → Calls Tryz.prog 28 #[v0a, v0b] w' fun e w'' => e = .returned (.bool (Nd.eqL l0a l0b)) ∧ Below w'.heap.size w' w'') := fun w' h' => q0 w' v0a v0b l0a l0b (k0a.below h') (k0b.below h')
     obtain ⟨da0a, dc0a, rfl, -⟩ := k0a.form
     clear k0a
     obtain ⟨da0b, dc0b, rfl, -⟩ := k0b.form
     clear k0b
     clear q0
     have xc0 : wr.cell? ⟨g1, o1 + k * 4, none⟩ = some (.int .i64 i0a) := ca 0 _ rfl
     have yc0 : wr.cell? ⟨g2, o2 + k * 4, none⟩ = some (.int .i64 i0b) := cb 0 _ rfl
     have xc1 : wr.cell? ⟨g1, o1 + k * 4 + 1, none⟩ = some (.string s1a) := ca 1 _ rfl
     have yc1 : wr.cell? ⟨g2, o2 + k * 4 + 1, none⟩ = some (.string s1b) := cb 1 _ rfl
     have xc2 : wr.cell? ⟨g1, o1 + k * 4 + 2, none⟩ = some (.slice pa2a x2a.length pc2a) := ca 2 _ rfl
     have yc2 : wr.cell? ⟨g2, o2 + k * 4 + 2, none⟩ = some (.slice pa2b x2b.length pc2b) := cb 2 _ rfl
     have xc3 : wr.cell? ⟨g1, o1 + k * 4 + 3, none⟩ = some (.slice da0a l0a.length dc0a) := ca 3 _ rfl
     have yc3 : wr.cell? ⟨g2, o2 + k * 4 + 3, none⟩ = some (.slice da0b l0b.length dc0b) := cb 3 _ rfl
     have hg1 : g1 < wr.heap.size := World.block_lt_of_cell? wr _ xc0
     have hg2 : g2 < wr.heap.size := World.block_lt_of_cell? wr _ yc0
     have hg3 : g1 < wr.heap.size + 1 := Nat.lt_succ_of_lt hg1
     have hg4 : g2 < wr.heap.size + 1 := Nat.lt_succ_of_lt hg2
     clear ca cb
     have HE : Hid (Nd.eqL xs ys = ((decide (i0a = i0b) && (decide (s1a = s1b) && (decide (x2a = x2b) && Nd.eqL l0a l0b))) && Nd.eqL (xs.drop (k + 1)) (ys.drop (k + 1)))) := by
      show _ = _
      rw [hH.out, Nd.eqL_at hxk hyk]
      congr 1
      rw [Bool.eq_iff_iff]
      simp only [Nd.eq_true, Nd.eqL_true, Bool.and_eq_true, decide_eq_true_eq, Nd.mk.injEq, List.cons.injEq, Sc.int.injEq, Sc.str.injEq, Sc.strs.injEq, and_true]
      constructor
      ·
       intro h; simp only [h, and_self]
      ·
       intro h; simp only [h, and_self]
     clear hH hxk hyk
     have hF0 := Fr.start wr [.int .i64 i0a, .string s1a, .slice pa2a x2a.length pc2a, .slice da0a l0a.length dc0a] [.int .i64 i0b, .string s1b, .slice pa2b x2b.length pc2b, .slice da0b l0b.length dc0b] 41
     have hFd := hF0.drew
     have hEd := (Fr.start wr [.int .i64 i0b, .string s1b, .slice pa2b x2b.length pc2b, .slice da0b l0b.length dc0b] [.int .i64 i0a, .string s1a, .slice pa2a x2a.length pc2a, .slice da0a l0a.length dc0a] 41).drew
     by_cases h0 : i0a = i0b
     ·
      subst h0
      rw [decide_eq_true rfl, Bool.true_and] at HE
      by_cases h1 : s1a = s1b
      ·
       subst h1
       rw [decide_eq_true rfl, Bool.true_and] at HE
       have r2 : ∀ w', Strs w' (.slice pa2a x2a.length pc2a) x2a → Strs w' (.slice pa2b x2b.length pc2b) x2b → _ := fun w' h1 h2 => refTexts_b _ _ x2a x2b w' h1 h2 ln2a ln2b
       cases h2 : decide (x2a = x2b) with
       | true =>
        rw [h2, Bool.true_and] at HE
        simp only [h2] at r2
        clear h2
        have r3 := R0.out
        cases h3 : Nd.eqL l0a l0b with
        | true =>
         rw [h3, Bool.true_and] at HE
         simp only [h3] at r3
         clear h3
         go_wp2
         go_region
         all_goals (
          go_wp2_with (first | (go_at_call 28; refine (r3 _ hF1.bl).mono ?_; rintro e w2 ⟨rfl, hb2⟩; have hF2 := hF1.step hb2; clear hb2) | (go_at_call 25; refine (r2 _ (TX2a.out _ hEd.bl) (TX2b.out _ hEd.bl)).mono ?_; rintro e w1 ⟨rfl, hb1⟩; have hF1 := hEd.step hb1; have fa3_0 := hF1.a 3 _ rfl; have fb3_0 := hF1.b 3 _ rfl; clear hb1) | (go_at_call 25; refine (r2 _ (TX2a.out _ hFd.bl) (TX2b.out _ hFd.bl)).mono ?_; rintro e w1 ⟨rfl, hb1⟩; have hF1 := hFd.step hb1; have fa3_0 := hF1.a 3 _ rfl; have fb3_0 := hF1.b 3 _ rfl; clear hb1))
          go_roundw
          case rel => exact ⟨k + 1, by go_num, by omega, HE, (bl_tr hB hF2.bl)⟩
          case measure => simp [intOf]; omega)
        | false =>
         rw [h3, Bool.false_and] at HE
         simp only [h3] at r3
         clear h3
         go_wp2
         go_region
         all_goals (
          go_wp2_with (first | (go_at_call 28; refine (r3 _ hF1.bl).mono ?_; rintro e w2 ⟨rfl, hb2⟩; have hF2 := hF1.step hb2; clear hb2) | (go_at_call 25; refine (r2 _ (TX2a.out _ hEd.bl) (TX2b.out _ hEd.bl)).mono ?_; rintro e w1 ⟨rfl, hb1⟩; have hF1 := hEd.step hb1; have fa3_0 := hF1.a 3 _ rfl; have fb3_0 := hF1.b 3 _ rfl; clear hb1) | (go_at_call 25; refine (r2 _ (TX2a.out _ hFd.bl) (TX2b.out _ hFd.bl)).mono ?_; rintro e w1 ⟨rfl, hb1⟩; have hF1 := hFd.step hb1; have fa3_0 := hF1.a 3 _ rfl; have fb3_0 := hF1.b 3 _ rfl; clear hb1))
          go_ret
          exact ⟨ret_bool (HE.out.symm), (bl_tr hB hF2.bl)⟩)
       | false =>
        rw [h2, Bool.false_and, Bool.false_and] at HE
        simp only [h2] at r2
        clear h2
        go_wp2
        go_region
        all_goals (
         go_wp2_with (first | (go_at_call 25; refine (r2 _ (TX2a.out _ hEd.bl) (TX2b.out _ hEd.bl)).mono ?_; rintro e w1 ⟨rfl, hb1⟩; have hF1 := hEd.step hb1; clear hb1) | (go_at_call 25; refine (r2 _ (TX2a.out _ hFd.bl) (TX2b.out _ hFd.bl)).mono ?_; rintro e w1 ⟨rfl, hb1⟩; have hF1 := hFd.step hb1; clear hb1))
         go_ret
         exact ⟨ret_bool (HE.out.symm), (bl_tr hB hF1.bl)⟩)
      ·
       rw [decide_eq_false h1, Bool.false_and, Bool.false_and] at HE
       have gq1 : (s1a.toList == s1b.toList) = false := by rw [Nm.str_eq, decide_eq_false h1]
       clear h1
       go_wp2
       go_region
       all_goals (
        go_wp2
        go_ret
        exact ⟨ret_bool (HE.out.symm), (bl_tr hB (by first | exact hFd.bl | exact hEd.bl))⟩)
     ·
      rw [decide_eq_false h0, Bool.false_and, Bool.false_and] at HE
      have gq0 : (i0a == i0b) = false := by rw [beq_eq_false_iff_ne]; exact h0
      have gn0 : (i0a != i0b) = true := by rw [bne_iff_ne]; exact h0
      go_wp2
      go_region
      all_goals (
       go_wp2
       go_ret
       exact ⟨ret_bool (HE.out.symm), (bl_tr hB (by first | exact hFd.bl | exact hEd.bl))⟩)
    ·
     have HX : Hid (Nd.eqL xs ys = true) := by
      show _ = _
      rw [hH.out, List.drop_eq_nil_of_le (by omega), List.drop_eq_nil_of_le (by have := HL.out; omega)]; exact Nd.eqL_nil
     clear hH k1 k2 q0
     go_wp2
     go_ret
     exact ⟨ret_bool HX.out.symm, hB⟩
 ·
  have H : Hid (Nd.eqL xs ys = false) := Nd.eqL_len hl
  subst e1; subst e2
  have hl2 : ((xs.length : Int) == (ys.length : Int)) = false := by rw [beq_eq_false_iff_ne]; omega
  clear h1 h2 hl q0
  go_enter Tryz.func28, Tryz.ntmps28
  go_wp2
  go_ret
  exact ⟨ret_bool H.out.symm, Below.refl _ _⟩

set_option maxHeartbeats 8000000 in
set_option maxRecDepth 100000 in
theorem refSame4 (n : Nat) (q0 : RefSameOf 28 n 0) : RefSameOf 58 (n + 1) 4 := by
 intro w v1 v2 xs ys h1 h2
 obtain ⟨a1, c1, e1, hx⟩ := h1.form
 obtain ⟨a2, c2, e2, hy⟩ := h2.form
 unfold maxLen at hx hy
 by_cases hl : xs.length = ys.length
 ·
  by_cases h0 : ys = []
  ·
   subst h0
   obtain rfl : xs = [] := List.eq_nil_of_length_eq_zero (by simpa using hl)
   subst e1; subst e2
   clear h1 h2 q0
   go_enter Tryz.func58, Tryz.ntmps58
   go_wp2
   go_loopw [5] (fun v wr => v = .int .i64 0 ∧ wr = w) (fun _ _ => 0)
   case atStart => exact ⟨rfl, rfl⟩
   case round =>
    obtain ⟨rfl, rfl⟩ := hrel
    go_wp2
    go_ret
    exact ⟨ret_bool Nd.eqL_nil.symm, Below.refl _ _⟩
  ·
   have h0x : ¬ xs = [] := fun e => h0 (List.eq_nil_of_length_eq_zero (by rw [← hl, e]; rfl))
   clear e1 e2
   obtain ⟨g1, o1, c1, rfl, -, -, -, k1⟩ := h1.resolve_right (fun h => h0x h.1)
   obtain ⟨g2, o2, c2, rfl, -, -, -, k2⟩ := h2.resolve_right (fun h => h0 h.1)
   have HL : Hid (xs.length = ys.length) := hl
   have hw2 : ys.length = xs.length := hl.symm
   rw [hw2]
   clear h1 h2 hl h0 h0x hy hw2
   go_enter Tryz.func58, Tryz.ntmps58
   go_wp2
   go_loopw [5] (fun v wr => ∃ k : Nat, v = .int .i64 k ∧ k ≤ xs.length ∧ Hid (Nd.eqL xs ys = Nd.eqL (xs.drop k) (ys.drop k)) ∧ Below w.heap.size w wr) (fun v _ => xs.length - (intOf v).toNat)
   case atStart => exact ⟨0, rfl, Nat.zero_le _, rfl, Below.refl _ _⟩
   case round =>
    obtain ⟨k, rfl, hk, hH, hB⟩ := hrel
    by_cases hlt : k < xs.length
    ·
     obtain ⟨x, hxk⟩ : ∃ x, xs[k]? = some x := ⟨_, List.getElem?_eq_getElem hlt⟩
     obtain ⟨y, hyk⟩ : ∃ y, ys[k]? = some y := ⟨_, List.getElem?_eq_getElem (by rw [← HL.out]; exact hlt)⟩
     obtain ⟨va, -, ca, ta⟩ := k1 k x hxk
     obtain ⟨vb, -, cb, tb⟩ := k2 k y hyk
     replace ca := ca.move trivial (Keeps.of_below (K := Any) hB)
     replace cb := cb.move trivial (Keeps.of_below (K := Any) hB)
     replace ta := At.move (Keeps.of_below hB) (fun _ h => h) _ _ _ _ ta
     replace tb := At.move (Keeps.of_below hB) (fun _ h => h) _ _ _ _ tb
     obtain ⟨s0a, v0a, l0a, rfl, rfl, -, k0a⟩ := At.con ta
     obtain ⟨s0b, v0b, l0b, rfl, rfl, -, k0b⟩ := At.con tb
     clear ta tb k1 k2
     have R0 : Hid (∀ w', Below wr.heap.size wr w' → Calls Tryz.prog 28 #[v0a, v0b] w' fun e w'' => e = .returned (.bool (Nd.eqL l0a l0b)) ∧ Below w'.heap.size w' w'') := fun w' h' => q0 w' v0a v0b l0a l0b (k0a.below h') (k0b.below h')
     obtain ⟨da0a, dc0a, rfl, -⟩ := k0a.form
     clear k0a
     obtain ⟨da0b, dc0b, rfl, -⟩ := k0b.form
     clear k0b
     clear q0
     have xc0 : wr.cell? ⟨g1, o1 + k * 2, none⟩ = some (.string s0a) := ca 0 _ rfl
     have yc0 : wr.cell? ⟨g2, o2 + k * 2, none⟩ = some (.string s0b) := cb 0 _ rfl
     have xc1 : wr.cell? ⟨g1, o1 + k * 2 + 1, none⟩ = some (.slice da0a l0a.length dc0a) := ca 1 _ rfl
     have yc1 : wr.cell? ⟨g2, o2 + k * 2 + 1, none⟩ = some (.slice da0b l0b.length dc0b) := cb 1 _ rfl
     have hg1 : g1 < wr.heap.size := World.block_lt_of_cell? wr _ xc0
     have hg2 : g2 < wr.heap.size := World.block_lt_of_cell? wr _ yc0
     have hg3 : g1 < wr.heap.size + 1 := Nat.lt_succ_of_lt hg1
     have hg4 : g2 < wr.heap.size + 1 := Nat.lt_succ_of_lt hg2
     clear ca cb
     have HE : Hid (Nd.eqL xs ys = ((decide (s0a = s0b) && Nd.eqL l0a l0b) && Nd.eqL (xs.drop (k + 1)) (ys.drop (k + 1)))) := by
      show _ = _
      rw [hH.out, Nd.eqL_at hxk hyk]
      congr 1
      rw [Bool.eq_iff_iff]
      simp [Nd.eq_true, Nd.eqL_true]
     clear hH hxk hyk
     have hF0 := Fr.start wr [.string s0a, .slice da0a l0a.length dc0a] [.string s0b, .slice da0b l0b.length dc0b] 121
     have hFd := hF0.drew
     have hEd := (Fr.start wr [.string s0b, .slice da0b l0b.length dc0b] [.string s0a, .slice da0a l0a.length dc0a] 121).drew
     by_cases h0 : s0a = s0b
     ·
      subst h0
      rw [decide_eq_true rfl, Bool.true_and] at HE
      have r1 := R0.out
      cases h1 : Nd.eqL l0a l0b with
      | true =>
       rw [h1, Bool.true_and] at HE
       simp only [h1] at r1
       clear h1
       go_wp2
       go_region
       all_goals (
        go_wp2_with (first | (go_at_call 28; refine (r1 _ hEd.bl).mono ?_; rintro e w1 ⟨rfl, hb1⟩; have hF1 := hEd.step hb1; clear hb1) | (go_at_call 28; refine (r1 _ hFd.bl).mono ?_; rintro e w1 ⟨rfl, hb1⟩; have hF1 := hFd.step hb1; clear hb1))
        go_roundw
        case rel => exact ⟨k + 1, by go_num, by omega, HE, (bl_tr hB hF1.bl)⟩
        case measure => simp [intOf]; omega)
      | false =>
       rw [h1, Bool.false_and] at HE
       simp only [h1] at r1
       clear h1
       go_wp2
       go_region
       all_goals (
        go_wp2_with (first | (go_at_call 28; refine (r1 _ hEd.bl).mono ?_; rintro e w1 ⟨rfl, hb1⟩; have hF1 := hEd.step hb1; clear hb1) | (go_at_call 28; refine (r1 _ hFd.bl).mono ?_; rintro e w1 ⟨rfl, hb1⟩; have hF1 := hFd.step hb1; clear hb1))
        go_ret
        exact ⟨ret_bool (HE.out.symm), (bl_tr hB hF1.bl)⟩)
     ·
      rw [decide_eq_false h0, Bool.false_and, Bool.false_and] at HE
      have gq0 : (s0a.toList == s0b.toList) = false := by rw [Nm.str_eq, decide_eq_false h0]
      clear h0
      go_wp2
      go_region
      all_goals (
       go_wp2
       go_ret
       exact ⟨ret_bool (HE.out.symm), (bl_tr hB (by first | exact hFd.bl | exact hEd.bl))⟩)
    ·
     have HX : Hid (Nd.eqL xs ys = true) := by
      show _ = _
      rw [hH.out, List.drop_eq_nil_of_le (by omega), List.drop_eq_nil_of_le (by have := HL.out; omega)]; exact Nd.eqL_nil
     clear hH k1 k2 q0
     go_wp2
     go_ret
     exact ⟨ret_bool HX.out.symm, hB⟩
 ·
  have H : Hid (Nd.eqL xs ys = false) := Nd.eqL_len hl
  subst e1; subst e2
  have hl2 : ((xs.length : Int) == (ys.length : Int)) = false := by rw [beq_eq_false_iff_ne]; omega
  clear h1 h2 hl q0
  go_enter Tryz.func58, Tryz.ntmps58
  go_wp2
  go_ret
  exact ⟨ret_bool H.out.symm, Below.refl _ _⟩

set_option maxHeartbeats 8000000 in
set_option maxRecDepth 100000 in
theorem refSame5 (n : Nat) (q3 : RefSameOf 27 n 3) (q5 : RefSameOf 59 n 5) (q6 : RefSameOf 60 n 6) : RefSameOf 59 (n + 1) 5 := by
 intro w v1 v2 xs ys h1 h2
 obtain ⟨a1, c1, e1, hx⟩ := h1.form
 obtain ⟨a2, c2, e2, hy⟩ := h2.form
 unfold maxLen at hx hy
 by_cases hl : xs.length = ys.length
 ·
  by_cases h0 : ys = []
  ·
   subst h0
   obtain rfl : xs = [] := List.eq_nil_of_length_eq_zero (by simpa using hl)
   subst e1; subst e2
   clear h1 h2 q3 q5 q6
   go_enter Tryz.func59, Tryz.ntmps59
   go_wp2
   go_loopw [5] (fun v wr => v = .int .i64 0 ∧ wr = w) (fun _ _ => 0)
   case atStart => exact ⟨rfl, rfl⟩
   case round =>
    obtain ⟨rfl, rfl⟩ := hrel
    go_wp2
    go_ret
    exact ⟨ret_bool Nd.eqL_nil.symm, Below.refl _ _⟩
  ·
   have h0x : ¬ xs = [] := fun e => h0 (List.eq_nil_of_length_eq_zero (by rw [← hl, e]; rfl))
   clear e1 e2
   obtain ⟨g1, o1, c1, rfl, -, -, -, k1⟩ := h1.resolve_right (fun h => h0x h.1)
   obtain ⟨g2, o2, c2, rfl, -, -, -, k2⟩ := h2.resolve_right (fun h => h0 h.1)
   have HL : Hid (xs.length = ys.length) := hl
   have hw2 : ys.length = xs.length := hl.symm
   rw [hw2]
   clear h1 h2 hl h0 h0x hy hw2
   go_enter Tryz.func59, Tryz.ntmps59
   go_wp2
   go_loopw [5] (fun v wr => ∃ k : Nat, v = .int .i64 k ∧ k ≤ xs.length ∧ Hid (Nd.eqL xs ys = Nd.eqL (xs.drop k) (ys.drop k)) ∧ Below w.heap.size w wr) (fun v _ => xs.length - (intOf v).toNat)
   case atStart => exact ⟨0, rfl, Nat.zero_le _, rfl, Below.refl _ _⟩
   case round =>
    obtain ⟨k, rfl, hk, hH, hB⟩ := hrel
    by_cases hlt : k < xs.length
    ·
     obtain ⟨x, hxk⟩ : ∃ x, xs[k]? = some x := ⟨_, List.getElem?_eq_getElem hlt⟩
     obtain ⟨y, hyk⟩ : ∃ y, ys[k]? = some y := ⟨_, List.getElem?_eq_getElem (by rw [← HL.out]; exact hlt)⟩
     obtain ⟨va, -, ca, ta⟩ := k1 k x hxk
     obtain ⟨vb, -, cb, tb⟩ := k2 k y hyk
     replace ca := ca.move trivial (Keeps.of_below (K := Any) hB)
     replace cb := cb.move trivial (Keeps.of_below (K := Any) hB)
     replace ta := At.move (Keeps.of_below hB) (fun _ h => h) _ _ _ _ ta
     replace tb := At.move (Keeps.of_below hB) (fun _ h => h) _ _ _ _ tb
     obtain ⟨i0a, p1a, x1a, v0a, l0a, v1a, l1a, v2a, l2a, rfl, rfl, -, ⟨tx1a, -, ln1a⟩, k0a, k1a, k2a⟩ := At.mod ta
     obtain ⟨i0b, p1b, x1b, v0b, l0b, v1b, l1b, v2b, l2b, rfl, rfl, -, ⟨tx1b, -, ln1b⟩, k0b, k1b, k2b⟩ := At.mod tb
     clear ta tb k1 k2
     have TX1a : Hid (∀ w', Below wr.heap.size wr w' → Strs w' p1a x1a) := fun w' h' => (tx1a.move (Keeps.of_below h') (fun _ h => h)).strs
     obtain ⟨pa1a, pc1a, rfl⟩ := tx1a.form
     clear tx1a
     have TX1b : Hid (∀ w', Below wr.heap.size wr w' → Strs w' p1b x1b) := fun w' h' => (tx1b.move (Keeps.of_below h') (fun _ h => h)).strs
     obtain ⟨pa1b, pc1b, rfl⟩ := tx1b.form
     clear tx1b
     have R0 : Hid (∀ w', Below wr.heap.size wr w' → Calls Tryz.prog 27 #[v0a, v0b] w' fun e w'' => e = .returned (.bool (Nd.eqL l0a l0b)) ∧ Below w'.heap.size w' w'') := fun w' h' => q3 w' v0a v0b l0a l0b (k0a.below h') (k0b.below h')
     obtain ⟨da0a, dc0a, rfl, -⟩ := k0a.form
     clear k0a
     obtain ⟨da0b, dc0b, rfl, -⟩ := k0b.form
     clear k0b
     have R1 : Hid (∀ w', Below wr.heap.size wr w' → Calls Tryz.prog 59 #[v1a, v1b] w' fun e w'' => e = .returned (.bool (Nd.eqL l1a l1b)) ∧ Below w'.heap.size w' w'') := fun w' h' => q5 w' v1a v1b l1a l1b (k1a.below h') (k1b.below h')
     obtain ⟨da1a, dc1a, rfl, -⟩ := k1a.form
     clear k1a
     obtain ⟨da1b, dc1b, rfl, -⟩ := k1b.form
     clear k1b
     have R2 : Hid (∀ w', Below wr.heap.size wr w' → Calls Tryz.prog 60 #[v2a, v2b] w' fun e w'' => e = .returned (.bool (Nd.eqL l2a l2b)) ∧ Below w'.heap.size w' w'') := fun w' h' => q6 w' v2a v2b l2a l2b (k2a.below h') (k2b.below h')
     obtain ⟨da2a, dc2a, rfl, -⟩ := k2a.form
     clear k2a
     obtain ⟨da2b, dc2b, rfl, -⟩ := k2b.form
     clear k2b
     clear q3 q5 q6
     have xc0 : wr.cell? ⟨g1, o1 + k * 5, none⟩ = some (.int .i64 i0a) := ca 0 _ rfl
     have yc0 : wr.cell? ⟨g2, o2 + k * 5, none⟩ = some (.int .i64 i0b) := cb 0 _ rfl
     have xc1 : wr.cell? ⟨g1, o1 + k * 5 + 1, none⟩ = some (.slice pa1a x1a.length pc1a) := ca 1 _ rfl
     have yc1 : wr.cell? ⟨g2, o2 + k * 5 + 1, none⟩ = some (.slice pa1b x1b.length pc1b) := cb 1 _ rfl
     have xc2 : wr.cell? ⟨g1, o1 + k * 5 + 2, none⟩ = some (.slice da0a l0a.length dc0a) := ca 2 _ rfl
     have yc2 : wr.cell? ⟨g2, o2 + k * 5 + 2, none⟩ = some (.slice da0b l0b.length dc0b) := cb 2 _ rfl
     have xc3 : wr.cell? ⟨g1, o1 + k * 5 + 3, none⟩ = some (.slice da1a l1a.length dc1a) := ca 3 _ rfl
     have yc3 : wr.cell? ⟨g2, o2 + k * 5 + 3, none⟩ = some (.slice da1b l1b.length dc1b) := cb 3 _ rfl
     have xc4 : wr.cell? ⟨g1, o1 + k * 5 + 4, none⟩ = some (.slice da2a l2a.length dc2a) := ca 4 _ rfl
     have yc4 : wr.cell? ⟨g2, o2 + k * 5 + 4, none⟩ = some (.slice da2b l2b.length dc2b) := cb 4 _ rfl
     have hg1 : g1 < wr.heap.size := World.block_lt_of_cell? wr _ xc0
     have hg2 : g2 < wr.heap.size := World.block_lt_of_cell? wr _ yc0
     have hg3 : g1 < wr.heap.size + 1 := Nat.lt_succ_of_lt hg1
     have hg4 : g2 < wr.heap.size + 1 := Nat.lt_succ_of_lt hg2
     clear ca cb
     have HE : Hid (Nd.eqL xs ys = ((decide (i0a = i0b) && (decide (x1a = x1b) && (Nd.eqL l0a l0b && (Nd.eqL l1a l1b && Nd.eqL l2a l2b)))) && Nd.eqL (xs.drop (k + 1)) (ys.drop (k + 1)))) := by
      show _ = _
      rw [hH.out, Nd.eqL_at hxk hyk]
      congr 1
      rw [Bool.eq_iff_iff]
      simp only [Nd.eq_true, Nd.eqL_true, Bool.and_eq_true, decide_eq_true_eq, Nd.mk.injEq, List.cons.injEq, Sc.int.injEq, Sc.strs.injEq, and_true]
      constructor
      ·
       intro h; simp only [h, and_self]
      ·
       intro h; simp only [h, and_self]
     clear hH hxk hyk
     have hF0 := Fr.start wr [.int .i64 i0a, .slice pa1a x1a.length pc1a, .slice da0a l0a.length dc0a, .slice da1a l1a.length dc1a, .slice da2a l2a.length dc2a] [.int .i64 i0b, .slice pa1b x1b.length pc1b, .slice da0b l0b.length dc0b, .slice da1b l1b.length dc1b, .slice da2b l2b.length dc2b] 125
     have hFd := hF0.drew
     have hEd := (Fr.start wr [.int .i64 i0b, .slice pa1b x1b.length pc1b, .slice da0b l0b.length dc0b, .slice da1b l1b.length dc1b, .slice da2b l2b.length dc2b] [.int .i64 i0a, .slice pa1a x1a.length pc1a, .slice da0a l0a.length dc0a, .slice da1a l1a.length dc1a, .slice da2a l2a.length dc2a] 125).drew
     by_cases h0 : i0a = i0b
     ·
      subst h0
      rw [decide_eq_true rfl, Bool.true_and] at HE
      have r1 : ∀ w', Strs w' (.slice pa1a x1a.length pc1a) x1a → Strs w' (.slice pa1b x1b.length pc1b) x1b → _ := fun w' h1 h2 => refTexts_b _ _ x1a x1b w' h1 h2 ln1a ln1b
      cases h1 : decide (x1a = x1b) with
      | true =>
       rw [h1, Bool.true_and] at HE
       simp only [h1] at r1
       clear h1
       have r2 := R0.out
       cases h2 : Nd.eqL l0a l0b with
       | true =>
        rw [h2, Bool.true_and] at HE
        simp only [h2] at r2
        clear h2
        have r3 := R1.out
        cases h3 : Nd.eqL l1a l1b with
        | true =>
         rw [h3, Bool.true_and] at HE
         simp only [h3] at r3
         clear h3
         have r4 := R2.out
         cases h4 : Nd.eqL l2a l2b with
         | true =>
          rw [h4, Bool.true_and] at HE
          simp only [h4] at r4
          clear h4
          go_wp2
          go_region
          all_goals (
           go_wp2_with (first | (go_at_call 60; refine (r4 _ hF3.bl).mono ?_; rintro e w4 ⟨rfl, hb4⟩; have hF4 := hF3.step hb4; clear hb4) | (go_at_call 59; refine (r3 _ hF2.bl).mono ?_; rintro e w3 ⟨rfl, hb3⟩; have hF3 := hF2.step hb3; have fa4_2 := hF3.a 4 _ rfl; have fb4_2 := hF3.b 4 _ rfl; clear hb3) | (go_at_call 27; refine (r2 _ hF1.bl).mono ?_; rintro e w2 ⟨rfl, hb2⟩; have hF2 := hF1.step hb2; have fa3_1 := hF2.a 3 _ rfl; have fb3_1 := hF2.b 3 _ rfl; have fa4_1 := hF2.a 4 _ rfl; have fb4_1 := hF2.b 4 _ rfl; clear hb2) | (go_at_call 25; refine (r1 _ (TX1a.out _ hEd.bl) (TX1b.out _ hEd.bl)).mono ?_; rintro e w1 ⟨rfl, hb1⟩; have hF1 := hEd.step hb1; have fa2_0 := hF1.a 2 _ rfl; have fb2_0 := hF1.b 2 _ rfl; have fa3_0 := hF1.a 3 _ rfl; have fb3_0 := hF1.b 3 _ rfl; have fa4_0 := hF1.a 4 _ rfl; have fb4_0 := hF1.b 4 _ rfl; clear hb1) | (go_at_call 25; refine (r1 _ (TX1a.out _ hFd.bl) (TX1b.out _ hFd.bl)).mono ?_; rintro e w1 ⟨rfl, hb1⟩; have hF1 := hFd.step hb1; have fa2_0 := hF1.a 2 _ rfl; have fb2_0 := hF1.b 2 _ rfl; have fa3_0 := hF1.a 3 _ rfl; have fb3_0 := hF1.b 3 _ rfl; have fa4_0 := hF1.a 4 _ rfl; have fb4_0 := hF1.b 4 _ rfl; clear hb1))
           go_roundw
           case rel => exact ⟨k + 1, by go_num, by omega, HE, (bl_tr hB hF4.bl)⟩
           case measure => simp [intOf]; omega)
         | false =>
          rw [h4, Bool.false_and] at HE
          simp only [h4] at r4
          clear h4
          go_wp2
          go_region
          all_goals (
           go_wp2_with (first | (go_at_call 60; refine (r4 _ hF3.bl).mono ?_; rintro e w4 ⟨rfl, hb4⟩; have hF4 := hF3.step hb4; clear hb4) | (go_at_call 59; refine (r3 _ hF2.bl).mono ?_; rintro e w3 ⟨rfl, hb3⟩; have hF3 := hF2.step hb3; have fa4_2 := hF3.a 4 _ rfl; have fb4_2 := hF3.b 4 _ rfl; clear hb3) | (go_at_call 27; refine (r2 _ hF1.bl).mono ?_; rintro e w2 ⟨rfl, hb2⟩; have hF2 := hF1.step hb2; have fa3_1 := hF2.a 3 _ rfl; have fb3_1 := hF2.b 3 _ rfl; have fa4_1 := hF2.a 4 _ rfl; have fb4_1 := hF2.b 4 _ rfl; clear hb2) | (go_at_call 25; refine (r1 _ (TX1a.out _ hEd.bl) (TX1b.out _ hEd.bl)).mono ?_; rintro e w1 ⟨rfl, hb1⟩; have hF1 := hEd.step hb1; have fa2_0 := hF1.a 2 _ rfl; have fb2_0 := hF1.b 2 _ rfl; have fa3_0 := hF1.a 3 _ rfl; have fb3_0 := hF1.b 3 _ rfl; have fa4_0 := hF1.a 4 _ rfl; have fb4_0 := hF1.b 4 _ rfl; clear hb1) | (go_at_call 25; refine (r1 _ (TX1a.out _ hFd.bl) (TX1b.out _ hFd.bl)).mono ?_; rintro e w1 ⟨rfl, hb1⟩; have hF1 := hFd.step hb1; have fa2_0 := hF1.a 2 _ rfl; have fb2_0 := hF1.b 2 _ rfl; have fa3_0 := hF1.a 3 _ rfl; have fb3_0 := hF1.b 3 _ rfl; have fa4_0 := hF1.a 4 _ rfl; have fb4_0 := hF1.b 4 _ rfl; clear hb1))
           go_ret
           exact ⟨ret_bool (HE.out.symm), (bl_tr hB hF4.bl)⟩)
        | false =>
         rw [h3, Bool.false_and, Bool.false_and] at HE
         simp only [h3] at r3
         clear h3
         go_wp2
         go_region
         all_goals (
          go_wp2_with (first | (go_at_call 59; refine (r3 _ hF2.bl).mono ?_; rintro e w3 ⟨rfl, hb3⟩; have hF3 := hF2.step hb3; clear hb3) | (go_at_call 27; refine (r2 _ hF1.bl).mono ?_; rintro e w2 ⟨rfl, hb2⟩; have hF2 := hF1.step hb2; have fa3_1 := hF2.a 3 _ rfl; have fb3_1 := hF2.b 3 _ rfl; clear hb2) | (go_at_call 25; refine (r1 _ (TX1a.out _ hEd.bl) (TX1b.out _ hEd.bl)).mono ?_; rintro e w1 ⟨rfl, hb1⟩; have hF1 := hEd.step hb1; have fa2_0 := hF1.a 2 _ rfl; have fb2_0 := hF1.b 2 _ rfl; have fa3_0 := hF1.a 3 _ rfl; have fb3_0 := hF1.b 3 _ rfl; clear hb1) | (go_at_call 25; refine (r1 _ (TX1a.out _ hFd.bl) (TX1b.out _ hFd.bl)).mono ?_; rintro e w1 ⟨rfl, hb1⟩; have hF1 := hFd.step hb1; have fa2_0 := hF1.a 2 _ rfl; have fb2_0 := hF1.b 2 _ rfl; have fa3_0 := hF1.a 3 _ rfl; have fb3_0 := hF1.b 3 _ rfl; clear hb1))
          go_ret
          exact ⟨ret_bool (HE.out.symm), (bl_tr hB hF3.bl)⟩)
       | false =>
        rw [h2, Bool.false_and, Bool.false_and] at HE
        simp only [h2] at r2
        clear h2
        go_wp2
        go_region
        all_goals (
         go_wp2_with (first | (go_at_call 27; refine (r2 _ hF1.bl).mono ?_; rintro e w2 ⟨rfl, hb2⟩; have hF2 := hF1.step hb2; clear hb2) | (go_at_call 25; refine (r1 _ (TX1a.out _ hEd.bl) (TX1b.out _ hEd.bl)).mono ?_; rintro e w1 ⟨rfl, hb1⟩; have hF1 := hEd.step hb1; have fa2_0 := hF1.a 2 _ rfl; have fb2_0 := hF1.b 2 _ rfl; clear hb1) | (go_at_call 25; refine (r1 _ (TX1a.out _ hFd.bl) (TX1b.out _ hFd.bl)).mono ?_; rintro e w1 ⟨rfl, hb1⟩; have hF1 := hFd.step hb1; have fa2_0 := hF1.a 2 _ rfl; have fb2_0 := hF1.b 2 _ rfl; clear hb1))
         go_ret
         exact ⟨ret_bool (HE.out.symm), (bl_tr hB hF2.bl)⟩)
      | false =>
       rw [h1, Bool.false_and, Bool.false_and] at HE
       simp only [h1] at r1
       clear h1
       go_wp2
       go_region
       all_goals (
        go_wp2_with (first | (go_at_call 25; refine (r1 _ (TX1a.out _ hEd.bl) (TX1b.out _ hEd.bl)).mono ?_; rintro e w1 ⟨rfl, hb1⟩; have hF1 := hEd.step hb1; clear hb1) | (go_at_call 25; refine (r1 _ (TX1a.out _ hFd.bl) (TX1b.out _ hFd.bl)).mono ?_; rintro e w1 ⟨rfl, hb1⟩; have hF1 := hFd.step hb1; clear hb1))
        go_ret
        exact ⟨ret_bool (HE.out.symm), (bl_tr hB hF1.bl)⟩)
     ·
      rw [decide_eq_false h0, Bool.false_and, Bool.false_and] at HE
      have gq0 : (i0a == i0b) = false := by rw [beq_eq_false_iff_ne]; exact h0
      have gn0 : (i0a != i0b) = true := by rw [bne_iff_ne]; exact h0
      go_wp2
      go_region
      all_goals (
       go_wp2
       go_ret
       exact ⟨ret_bool (HE.out.symm), (bl_tr hB (by first | exact hFd.bl | exact hEd.bl))⟩)
    ·
     have HX : Hid (Nd.eqL xs ys = true) := by
      show _ = _
      rw [hH.out, List.drop_eq_nil_of_le (by omega), List.drop_eq_nil_of_le (by have := HL.out; omega)]; exact Nd.eqL_nil
     clear hH k1 k2 q3 q5 q6
     go_wp2
     go_ret
     exact ⟨ret_bool HX.out.symm, hB⟩
 ·
  have H : Hid (Nd.eqL xs ys = false) := Nd.eqL_len hl
  subst e1; subst e2
  have hl2 : ((xs.length : Int) == (ys.length : Int)) = false := by rw [beq_eq_false_iff_ne]; omega
  clear h1 h2 hl q3 q5 q6
  go_enter Tryz.func59, Tryz.ntmps59
  go_wp2
  go_ret
  exact ⟨ret_bool H.out.symm, Below.refl _ _⟩

end Go.Proofs.YtjebepnphoeiaabGreatDoor
