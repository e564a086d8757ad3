/- Pieces: NdX4 NdX5 NdX6 NdX7 NdU NdSA NdSB NdSC NdSD NdSZ NdA. -/
import Derived.Test.YtjebepnphoeiaaaGreatDoorQbs
import Derived.BigRegion
import Derived.Test.YtjebepnphoeiaaaGreatDoorQbo
import Derived.Test.YtjebepnphoeiaaaGreatDoorQac
namespace Go.Proofs.YtjebepnphoeiaaaGreatDoor
open Go.RowKit
set_option linter.unusedVariables false

set_option maxHeartbeats 8000000 in
set_option maxRecDepth 100000 in
theorem refSame4 (n : Nat) (q0 : RefSameOf 43 n 0) : RefSameOf 148 (n + 1) 4 := by
 intro w v1 v2 xs ys h1 h2
 obtain ⟨a1, c1, e1, hx⟩ := h1.form
 obtain ⟨a2, c2, e2, hy⟩ := h2.form
 unfold maxLen at hx hy
 by_cases hl : xs.length = ys.length
 ·
  by_cases h0 : ys = []
  ·
   subst h0
   obtain rfl : xs = [] := List.eq_nil_of_length_eq_zero (by simpa using hl)
   subst e1; subst e2
   clear h1 h2 q0
   go_enter Tryz.func148, Tryz.ntmps148
   go_wp2
   go_loopw [5] (fun v wr => v = .int .i64 0 ∧ wr = w) (fun _ _ => 0)
   case atStart => exact ⟨rfl, rfl⟩
   case round =>
    obtain ⟨rfl, rfl⟩ := hrel
    go_wp2
    go_ret
    exact ⟨ret_bool Nd.eqL_nil.symm, Below.refl _ _⟩
  ·
   have h0x : ¬ xs = [] := fun e => h0 (List.eq_nil_of_length_eq_zero (by rw [← hl, e]; rfl))
   clear e1 e2
   obtain ⟨g1, o1, c1, rfl, -, -, -, k1⟩ := h1.resolve_right (fun h => h0x h.1)
   obtain ⟨g2, o2, c2, rfl, -, -, -, k2⟩ := h2.resolve_right (fun h => h0 h.1)
   have HL : Hid (xs.length = ys.length) := hl
   have hw2 : ys.length = xs.length := hl.symm
   rw [hw2]
   clear h1 h2 hl h0 h0x hy hw2
   go_enter Tryz.func148, Tryz.ntmps148
   go_wp2
   go_loopw [5] (fun v wr => ∃ k : Nat, v = .int .i64 k ∧ k ≤ xs.length ∧ Hid (Nd.eqL xs ys = Nd.eqL (xs.drop k) (ys.drop k)) ∧ Below w.heap.size w wr) (fun v _ => xs.length - (intOf v).toNat)
   case atStart => exact ⟨0, rfl, Nat.zero_le _, rfl, Below.refl _ _⟩
   case round =>
    obtain ⟨k, rfl, hk, hH, hB⟩ := hrel
    by_cases hlt : k < xs.length
    ·
     obtain ⟨x, hxk⟩ : ∃ x, xs[k]? = some x := ⟨_, List.getElem?_eq_getElem hlt⟩
     obtain ⟨y, hyk⟩ : ∃ y, ys[k]? = some y := ⟨_, List.getElem?_eq_getElem (by rw [← HL.out]; exact hlt)⟩
     obtain ⟨va, -, ca, ta⟩ := k1 k x hxk
     obtain ⟨vb, -, cb, tb⟩ := k2 k y hyk
     replace ca := ca.move trivial (Keeps.of_below (K := Any) hB)
     replace cb := cb.move trivial (Keeps.of_below (K := Any) hB)
     replace ta := At.move (Keeps.of_below hB) (fun _ h => h) _ _ _ _ ta
     replace tb := At.move (Keeps.of_below hB) (fun _ h => h) _ _ _ _ tb
     obtain ⟨s0a, v0a, l0a, rfl, rfl, -, k0a⟩ := At.con ta
     obtain ⟨s0b, v0b, l0b, rfl, rfl, -, k0b⟩ := At.con tb
     clear ta tb k1 k2
     have R0 : Hid (∀ w', Below wr.heap.size wr w' → Calls Tryz.prog 43 #[v0a, v0b] w' fun e w'' => e = .returned (.bool (Nd.eqL l0a l0b)) ∧ Below w'.heap.size w' w'') := fun w' h' => q0 w' v0a v0b l0a l0b (k0a.below h') (k0b.below h')
     obtain ⟨da0a, dc0a, rfl, -⟩ := k0a.form
     clear k0a
     obtain ⟨da0b, dc0b, rfl, -⟩ := k0b.form
     clear k0b
     clear q0
     have xc0 : wr.cell? ⟨g1, o1 + k * 2, none⟩ = some (.string s0a) := ca 0 _ rfl
     have yc0 : wr.cell? ⟨g2, o2 + k * 2, none⟩ = some (.string s0b) := cb 0 _ rfl
     have xc1 : wr.cell? ⟨g1, o1 + k * 2 + 1, none⟩ = some (.slice da0a l0a.length dc0a) := ca 1 _ rfl
     have yc1 : wr.cell? ⟨g2, o2 + k * 2 + 1, none⟩ = some (.slice da0b l0b.length dc0b) := cb 1 _ rfl
     have hg1 : g1 < wr.heap.size := World.block_lt_of_cell? wr _ xc0
     have hg2 : g2 < wr.heap.size := World.block_lt_of_cell? wr _ yc0
     have hg3 : g1 < wr.heap.size + 1 := Nat.lt_succ_of_lt hg1
     have hg4 : g2 < wr.heap.size + 1 := Nat.lt_succ_of_lt hg2
     clear ca cb
     have HE : Hid (Nd.eqL xs ys = ((decide (s0a = s0b) && Nd.eqL l0a l0b) && Nd.eqL (xs.drop (k + 1)) (ys.drop (k + 1)))) := by
      show _ = _
      rw [hH.out, Nd.eqL_at hxk hyk]
      congr 1
      rw [Bool.eq_iff_iff]
      simp [Nd.eq_true, Nd.eqL_true]
     clear hH hxk hyk
     have hF0 := Fr.start wr [.string s0a, .slice da0a l0a.length dc0a] [.string s0b, .slice da0b l0b.length dc0b] 207
     have hFd := hF0.drew
     have hEd := (Fr.start wr [.string s0b, .slice da0b l0b.length dc0b] [.string s0a, .slice da0a l0a.length dc0a] 207).drew
     by_cases h0 : s0a = s0b
     ·
      subst h0
      rw [decide_eq_true rfl, Bool.true_and] at HE
      have r1 := R0.out
      cases h1 : Nd.eqL l0a l0b with
      | true =>
       rw [h1, Bool.true_and] at HE
       simp only [h1] at r1
       clear h1
       go_wp2
       go_region
       all_goals (
        go_wp2_with (first | (go_at_call 43; refine (r1 _ hEd.bl).mono ?_; rintro e w1 ⟨rfl, hb1⟩; have hF1 := hEd.step hb1; clear hb1) | (go_at_call 43; refine (r1 _ hFd.bl).mono ?_; rintro e w1 ⟨rfl, hb1⟩; have hF1 := hFd.step hb1; clear hb1))
        go_roundw
        case rel => exact ⟨k + 1, by go_num, by omega, HE, (bl_tr hB hF1.bl)⟩
        case measure => simp [intOf]; omega)
      | false =>
       rw [h1, Bool.false_and] at HE
       simp only [h1] at r1
       clear h1
       go_wp2
       go_region
       all_goals (
        go_wp2_with (first | (go_at_call 43; refine (r1 _ hEd.bl).mono ?_; rintro e w1 ⟨rfl, hb1⟩; have hF1 := hEd.step hb1; clear hb1) | (go_at_call 43; refine (r1 _ hFd.bl).mono ?_; rintro e w1 ⟨rfl, hb1⟩; have hF1 := hFd.step hb1; clear hb1))
        go_ret
        exact ⟨ret_bool (HE.out.symm), (bl_tr hB hF1.bl)⟩)
     ·
      rw [decide_eq_false h0, Bool.false_and, Bool.false_and] at HE
      have gq0 : (s0a.toList == s0b.toList) = false := by rw [Nm.str_eq, decide_eq_false h0]
      clear h0
      go_wp2
      go_region
      all_goals (
       go_wp2
       go_ret
       exact ⟨ret_bool (HE.out.symm), (bl_tr hB (by first | exact hFd.bl | exact hEd.bl))⟩)
    ·
     have HX : Hid (Nd.eqL xs ys = true) := by
      show _ = _
      rw [hH.out, List.drop_eq_nil_of_le (by omega), List.drop_eq_nil_of_le (by have := HL.out; omega)]; exact Nd.eqL_nil
     clear hH k1 k2 q0
     go_wp2
     go_ret
     exact ⟨ret_bool HX.out.symm, hB⟩
 ·
  have H : Hid (Nd.eqL xs ys = false) := Nd.eqL_len hl
  subst e1; subst e2
  have hl2 : ((xs.length : Int) == (ys.length : Int)) = false := by rw [beq_eq_false_iff_ne]; omega
  clear h1 h2 hl q0
  go_enter Tryz.func148, Tryz.ntmps148
  go_wp2
  go_ret
  exact ⟨ret_bool H.out.symm, Below.refl _ _⟩

set_option maxHeartbeats 8000000 in
set_option maxRecDepth 100000 in
theorem refSame5 (n : Nat) (q3 : RefSameOf 81 n 3) (q5 : RefSameOf 149 n 5) (q6 : RefSameOf 150 n 6) : RefSameOf 149 (n + 1) 5 := by
 intro w v1 v2 xs ys h1 h2
 obtain ⟨a1, c1, e1, hx⟩ := h1.form
 obtain ⟨a2, c2, e2, hy⟩ := h2.form
 unfold maxLen at hx hy
 by_cases hl : xs.length = ys.length
 ·
  by_cases h0 : ys = []
  ·
   subst h0
   obtain rfl : xs = [] := List.eq_nil_of_length_eq_zero (by simpa using hl)
   subst e1; subst e2
   clear h1 h2 q3 q5 q6
   go_enter Tryz.func149, Tryz.ntmps149
   go_wp2
   go_loopw [5] (fun v wr => v = .int .i64 0 ∧ wr = w) (fun _ _ => 0)
   case atStart => exact ⟨rfl, rfl⟩
   case round =>
    obtain ⟨rfl, rfl⟩ := hrel
    go_wp2
    go_ret
    exact ⟨ret_bool Nd.eqL_nil.symm, Below.refl _ _⟩
  ·
   have h0x : ¬ xs = [] := fun e => h0 (List.eq_nil_of_length_eq_zero (by rw [← hl, e]; rfl))
   clear e1 e2
   obtain ⟨g1, o1, c1, rfl, -, -, -, k1⟩ := h1.resolve_right (fun h => h0x h.1)
   obtain ⟨g2, o2, c2, rfl, -, -, -, k2⟩ := h2.resolve_right (fun h => h0 h.1)
   have HL : Hid (xs.length = ys.length) := hl
   have hw2 : ys.length = xs.length := hl.symm
   rw [hw2]
   clear h1 h2 hl h0 h0x hy hw2
   go_enter Tryz.func149, Tryz.ntmps149
   go_wp2
   go_loopw [5] (fun v wr => ∃ k : Nat, v = .int .i64 k ∧ k ≤ xs.length ∧ Hid (Nd.eqL xs ys = Nd.eqL (xs.drop k) (ys.drop k)) ∧ Below w.heap.size w wr) (fun v _ => xs.length - (intOf v).toNat)
   case atStart => exact ⟨0, rfl, Nat.zero_le _, rfl, Below.refl _ _⟩
   case round =>
    obtain ⟨k, rfl, hk, hH, hB⟩ := hrel
    by_cases hlt : k < xs.length
    ·
     obtain ⟨x, hxk⟩ : ∃ x, xs[k]? = some x := ⟨_, List.getElem?_eq_getElem hlt⟩
     obtain ⟨y, hyk⟩ : ∃ y, ys[k]? = some y := ⟨_, List.getElem?_eq_getElem (by rw [← HL.out]; exact hlt)⟩
     obtain ⟨va, -, ca, ta⟩ := k1 k x hxk
     obtain ⟨vb, -, cb, tb⟩ := k2 k y hyk
     replace ca := ca.move trivial (Keeps.of_below (K := Any) hB)
     replace cb := cb.move trivial (Keeps.of_below (K := Any) hB)
     replace ta := At.move (Keeps.of_below hB) (fun _ h => h) _ _ _ _ ta
     replace tb := At.move (Keeps.of_below hB) (fun _ h => h) _ _ _ _ tb
     obtain ⟨i0a, p1a, x1a, v0a, l0a, v1a, l1a, v2a, l2a, rfl, rfl, -, ⟨tx1a, -, ln1a⟩, k0a, k1a, k2a⟩ := At.mod ta
     obtain ⟨i0b, p1b, x1b, v0b, l0b, v1b, l1b, v2b, l2b, rfl, rfl, -, ⟨tx1b, -, ln1b⟩, k0b, k1b, k2b⟩ := At.mod tb
     clear ta tb k1 k2
     have TX1a : Hid (∀ w', Below wr.heap.size wr w' → Strs w' p1a x1a) := fun w' h' => (tx1a.move (Keeps.of_below h') (fun _ h => h)).strs
     obtain ⟨pa1a, pc1a, rfl⟩ := tx1a.form
     clear tx1a
     have TX1b : Hid (∀ w', Below wr.heap.size wr w' → Strs w' p1b x1b) := fun w' h' => (tx1b.move (Keeps.of_below h') (fun _ h => h)).strs
     obtain ⟨pa1b, pc1b, rfl⟩ := tx1b.form
     clear tx1b
     have R0 : Hid (∀ w', Below wr.heap.size wr w' → Calls Tryz.prog 81 #[v0a, v0b] w' fun e w'' => e = .returned (.bool (Nd.eqL l0a l0b)) ∧ Below w'.heap.size w' w'') := fun w' h' => q3 w' v0a v0b l0a l0b (k0a.below h') (k0b.below h')
     obtain ⟨da0a, dc0a, rfl, -⟩ := k0a.form
     clear k0a
     obtain ⟨da0b, dc0b, rfl, -⟩ := k0b.form
     clear k0b
     have R1 : Hid (∀ w', Below wr.heap.size wr w' → Calls Tryz.prog 149 #[v1a, v1b] w' fun e w'' => e = .returned (.bool (Nd.eqL l1a l1b)) ∧ Below w'.heap.size w' w'') := fun w' h' => q5 w' v1a v1b l1a l1b (k1a.below h') (k1b.below h')
     obtain ⟨da1a, dc1a, rfl, -⟩ := k1a.form
     clear k1a
     obtain ⟨da1b, dc1b, rfl, -⟩ := k1b.form
     clear k1b
     have R2 : Hid (∀ w', Below wr.heap.size wr w' → Calls Tryz.prog 150 #[v2a, v2b] w' fun e w'' => e = .returned (.bool (Nd.eqL l2a l2b)) ∧ Below w'.heap.size w' w'') := fun w' h' => q6 w' v2a v2b l2a l2b (k2a.below h') (k2b.below h')
     obtain ⟨da2a, dc2a, rfl, -⟩ := k2a.form
     clear k2a
     obtain ⟨da2b, dc2b, rfl, -⟩ := k2b.form
     clear k2b
     clear q3 q5 q6
     have xc0 : wr.cell? ⟨g1, o1 + k * 5, none⟩ = some (.int .i64 i0a) := ca 0 _ rfl
     have yc0 : wr.cell? ⟨g2, o2 + k * 5, none⟩ = some (.int .i64 i0b) := cb 0 _ rfl
     have xc1 : wr.cell? ⟨g1, o1 + k * 5 + 1, none⟩ = some (.slice pa1a x1a.length pc1a) := ca 1 _ rfl
     have yc1 : wr.cell? ⟨g2, o2 + k * 5 + 1, none⟩ = some (.slice pa1b x1b.length pc1b) := cb 1 _ rfl
     have xc2 : wr.cell? ⟨g1, o1 + k * 5 + 2, none⟩ = some (.slice da0a l0a.length dc0a) := ca 2 _ rfl
     have yc2 : wr.cell? ⟨g2, o2 + k * 5 + 2, none⟩ = some (.slice da0b l0b.length dc0b) := cb 2 _ rfl
     have xc3 : wr.cell? ⟨g1, o1 + k * 5 + 3, none⟩ = some (.slice da1a l1a.length dc1a) := ca 3 _ rfl
     have yc3 : wr.cell? ⟨g2, o2 + k * 5 + 3, none⟩ = some (.slice da1b l1b.length dc1b) := cb 3 _ rfl
     have xc4 : wr.cell? ⟨g1, o1 + k * 5 + 4, none⟩ = some (.slice da2a l2a.length dc2a) := ca 4 _ rfl
     have yc4 : wr.cell? ⟨g2, o2 + k * 5 + 4, none⟩ = some (.slice da2b l2b.length dc2b) := cb 4 _ rfl
     have hg1 : g1 < wr.heap.size := World.block_lt_of_cell? wr _ xc0
     have hg2 : g2 < wr.heap.size := World.block_lt_of_cell? wr _ yc0
     have hg3 : g1 < wr.heap.size + 1 := Nat.lt_succ_of_lt hg1
     have hg4 : g2 < wr.heap.size + 1 := Nat.lt_succ_of_lt hg2
     clear ca cb
     have HE : Hid (Nd.eqL xs ys = ((decide (i0a = i0b) && (decide (x1a = x1b) && (Nd.eqL l0a l0b && (Nd.eqL l1a l1b && Nd.eqL l2a l2b)))) && Nd.eqL (xs.drop (k + 1)) (ys.drop (k + 1)))) := by
      show _ = _
      rw [hH.out, Nd.eqL_at hxk hyk]
      congr 1
      rw [Bool.eq_iff_iff]
      simp only [Nd.eq_true, Nd.eqL_true, Bool.and_eq_true, decide_eq_true_eq, Nd.mk.injEq, List.cons.injEq, Sc.int.injEq, Sc.strs.injEq, and_true]
      constructor
      ·
       intro h; simp only [h, and_self]
      ·
       intro h; simp only [h, and_self]
     clear hH hxk hyk
     have hF0 := Fr.start wr [.int .i64 i0a, .slice pa1a x1a.length pc1a, .slice da0a l0a.length dc0a, .slice da1a l1a.length dc1a, .slice da2a l2a.length dc2a] [.int .i64 i0b, .slice pa1b x1b.length pc1b, .slice da0b l0b.length dc0b, .slice da1b l1b.length dc1b, .slice da2b l2b.length dc2b] 211
     have hFd := hF0.drew
     have hEd := (Fr.start wr [.int .i64 i0b, .slice pa1b x1b.length pc1b, .slice da0b l0b.length dc0b, .slice da1b l1b.length dc1b, .slice da2b l2b.length dc2b] [.int .i64 i0a, .slice pa1a x1a.length pc1a, .slice da0a l0a.length dc0a, .slice da1a l1a.length dc1a, .slice da2a l2a.length dc2a] 211).drew
     by_cases h0 : i0a = i0b
     ·
      subst h0
      rw [decide_eq_true rfl, Bool.true_and] at HE
      have r1 : ∀ w', Strs w' (.slice pa1a x1a.length pc1a) x1a → Strs w' (.slice pa1b x1b.length pc1b) x1b → _ := fun w' h1 h2 => refTexts_b _ _ x1a x1b w' h1 h2 ln1a ln1b
      cases h1 : decide (x1a = x1b) with
      | true =>
       rw [h1, Bool.true_and] at HE
       simp only [h1] at r1
       clear h1
       have r2 := R0.out
       cases h2 : Nd.eqL l0a l0b with
       | true =>
        rw [h2, Bool.true_and] at HE
        simp only [h2] at r2
        clear h2
        have r3 := R1.out
        cases h3 : Nd.eqL l1a l1b with
        | true =>
         rw [h3, Bool.true_and] at HE
         simp only [h3] at r3
         clear h3
         have r4 := R2.out
         cases h4 : Nd.eqL l2a l2b with
         | true =>
          rw [h4, Bool.true_and] at HE
          simp only [h4] at r4
          clear h4
          go_wp2
          go_region
          all_goals (
           go_wp2_with (first | (go_at_call 150; refine (r4 _ hF3.bl).mono ?_; rintro e w4 ⟨rfl, hb4⟩; have hF4 := hF3.step hb4; clear hb4) | (go_at_call 149; refine (r3 _ hF2.bl).mono ?_; rintro e w3 ⟨rfl, hb3⟩; have hF3 := hF2.step hb3; have fa4_2 := hF3.a 4 _ rfl; have fb4_2 := hF3.b 4 _ rfl; clear hb3) | (go_at_call 81; refine (r2 _ hF1.bl).mono ?_; rintro e w2 ⟨rfl, hb2⟩; have hF2 := hF1.step hb2; have fa3_1 := hF2.a 3 _ rfl; have fb3_1 := hF2.b 3 _ rfl; have fa4_1 := hF2.a 4 _ rfl; have fb4_1 := hF2.b 4 _ rfl; clear hb2) | (go_at_call 80; refine (r1 _ (TX1a.out _ hEd.bl) (TX1b.out _ hEd.bl)).mono ?_; rintro e w1 ⟨rfl, hb1⟩; have hF1 := hEd.step hb1; have fa2_0 := hF1.a 2 _ rfl; have fb2_0 := hF1.b 2 _ rfl; have fa3_0 := hF1.a 3 _ rfl; have fb3_0 := hF1.b 3 _ rfl; have fa4_0 := hF1.a 4 _ rfl; have fb4_0 := hF1.b 4 _ rfl; clear hb1) | (go_at_call 80; refine (r1 _ (TX1a.out _ hFd.bl) (TX1b.out _ hFd.bl)).mono ?_; rintro e w1 ⟨rfl, hb1⟩; have hF1 := hFd.step hb1; have fa2_0 := hF1.a 2 _ rfl; have fb2_0 := hF1.b 2 _ rfl; have fa3_0 := hF1.a 3 _ rfl; have fb3_0 := hF1.b 3 _ rfl; have fa4_0 := hF1.a 4 _ rfl; have fb4_0 := hF1.b 4 _ rfl; clear hb1))
           go_roundw
           case rel => exact ⟨k + 1, by go_num, by omega, HE, (bl_tr hB hF4.bl)⟩
           case measure => simp [intOf]; omega)
         | false =>
          rw [h4, Bool.false_and] at HE
          simp only [h4] at r4
          clear h4
          go_wp2
          go_region
          all_goals (
           go_wp2_with (first | (go_at_call 150; refine (r4 _ hF3.bl).mono ?_; rintro e w4 ⟨rfl, hb4⟩; have hF4 := hF3.step hb4; clear hb4) | (go_at_call 149; refine (r3 _ hF2.bl).mono ?_; rintro e w3 ⟨rfl, hb3⟩; have hF3 := hF2.step hb3; have fa4_2 := hF3.a 4 _ rfl; have fb4_2 := hF3.b 4 _ rfl; clear hb3) | (go_at_call 81; refine (r2 _ hF1.bl).mono ?_; rintro e w2 ⟨rfl, hb2⟩; have hF2 := hF1.step hb2; have fa3_1 := hF2.a 3 _ rfl; have fb3_1 := hF2.b 3 _ rfl; have fa4_1 := hF2.a 4 _ rfl; have fb4_1 := hF2.b 4 _ rfl; clear hb2) | (go_at_call 80; refine (r1 _ (TX1a.out _ hEd.bl) (TX1b.out _ hEd.bl)).mono ?_; rintro e w1 ⟨rfl, hb1⟩; have hF1 := hEd.step hb1; have fa2_0 := hF1.a 2 _ rfl; have fb2_0 := hF1.b 2 _ rfl; have fa3_0 := hF1.a 3 _ rfl; have fb3_0 := hF1.b 3 _ rfl; have fa4_0 := hF1.a 4 _ rfl; have fb4_0 := hF1.b 4 _ rfl; clear hb1) | (go_at_call 80; refine (r1 _ (TX1a.out _ hFd.bl) (TX1b.out _ hFd.bl)).mono ?_; rintro e w1 ⟨rfl, hb1⟩; have hF1 := hFd.step hb1; have fa2_0 := hF1.a 2 _ rfl; have fb2_0 := hF1.b 2 _ rfl; have fa3_0 := hF1.a 3 _ rfl; have fb3_0 := hF1.b 3 _ rfl; have fa4_0 := hF1.a 4 _ rfl; have fb4_0 := hF1.b 4 _ rfl; clear hb1))
           go_ret
           exact ⟨ret_bool (HE.out.symm), (bl_tr hB hF4.bl)⟩)
        | false =>
         rw [h3, Bool.false_and, Bool.false_and] at HE
         simp only [h3] at r3
         clear h3
         go_wp2
         go_region
         all_goals (
          go_wp2_with (first | (go_at_call 149; refine (r3 _ hF2.bl).mono ?_; rintro e w3 ⟨rfl, hb3⟩; have hF3 := hF2.step hb3; clear hb3) | (go_at_call 81; refine (r2 _ hF1.bl).mono ?_; rintro e w2 ⟨rfl, hb2⟩; have hF2 := hF1.step hb2; have fa3_1 := hF2.a 3 _ rfl; have fb3_1 := hF2.b 3 _ rfl; clear hb2) | (go_at_call 80; refine (r1 _ (TX1a.out _ hEd.bl) (TX1b.out _ hEd.bl)).mono ?_; rintro e w1 ⟨rfl, hb1⟩; have hF1 := hEd.step hb1; have fa2_0 := hF1.a 2 _ rfl; have fb2_0 := hF1.b 2 _ rfl; have fa3_0 := hF1.a 3 _ rfl; have fb3_0 := hF1.b 3 _ rfl; clear hb1) | (go_at_call 80; refine (r1 _ (TX1a.out _ hFd.bl) (TX1b.out _ hFd.bl)).mono ?_; rintro e w1 ⟨rfl, hb1⟩; have hF1 := hFd.step hb1; have fa2_0 := hF1.a 2 _ rfl; have fb2_0 := hF1.b 2 _ rfl; have fa3_0 := hF1.a 3 _ rfl; have fb3_0 := hF1.b 3 _ rfl; clear hb1))
          go_ret
          exact ⟨ret_bool (HE.out.symm), (bl_tr hB hF3.bl)⟩)
       | false =>
        rw [h2, Bool.false_and, Bool.false_and] at HE
        simp only [h2] at r2
        clear h2
        go_wp2
        go_region
        all_goals (
         go_wp2_with (first | (go_at_call 81; refine (r2 _ hF1.bl).mono ?_; rintro e w2 ⟨rfl, hb2⟩; have hF2 := hF1.step hb2; clear hb2) | (go_at_call 80; refine (r1 _ (TX1a.out _ hEd.bl) (TX1b.out _ hEd.bl)).mono ?_; rintro e w1 ⟨rfl, hb1⟩; have hF1 := hEd.step hb1; have fa2_0 := hF1.a 2 _ rfl; have fb2_0 := hF1.b 2 _ rfl; clear hb1) | (go_at_call 80; refine (r1 _ (TX1a.out _ hFd.bl) (TX1b.out _ hFd.bl)).mono ?_; rintro e w1 ⟨rfl, hb1⟩; have hF1 := hFd.step hb1; have fa2_0 := hF1.a 2 _ rfl; have fb2_0 := hF1.b 2 _ rfl; clear hb1))
         go_ret
         exact ⟨ret_bool (HE.out.symm), (bl_tr hB hF2.bl)⟩)
      | false =>
       rw [h1, Bool.false_and, Bool.false_and] at HE
       simp only [h1] at r1
       clear h1
       go_wp2
       go_region
       all_goals (
        go_wp2_with (first | (go_at_call 80; refine (r1 _ (TX1a.out _ hEd.bl) (TX1b.out _ hEd.bl)).mono ?_; rintro e w1 ⟨rfl, hb1⟩; have hF1 := hEd.step hb1; clear hb1) | (go_at_call 80; refine (r1 _ (TX1a.out _ hFd.bl) (TX1b.out _ hFd.bl)).mono ?_; rintro e w1 ⟨rfl, hb1⟩; have hF1 := hFd.step hb1; clear hb1))
        go_ret
        exact ⟨ret_bool (HE.out.symm), (bl_tr hB hF1.bl)⟩)
     ·
      rw [decide_eq_false h0, Bool.false_and, Bool.false_and] at HE
      have gq0 : (i0a == i0b) = false := by rw [beq_eq_false_iff_ne]; exact h0
      have gn0 : (i0a != i0b) = true := by rw [bne_iff_ne]; exact h0
      go_wp2
      go_region
      all_goals (
       go_wp2
       go_ret
       exact ⟨ret_bool (HE.out.symm), (bl_tr hB (by first | exact hFd.bl | exact hEd.bl))⟩)
    ·
     have HX : Hid (Nd.eqL xs ys = true) := by
      show _ = _
      rw [hH.out, List.drop_eq_nil_of_le (by omega), List.drop_eq_nil_of_le (by have := HL.out; omega)]; exact Nd.eqL_nil
     clear hH k1 k2 q3 q5 q6
     go_wp2
     go_ret
     exact ⟨ret_bool HX.out.symm, hB⟩
 ·
  have H : Hid (Nd.eqL xs ys = false) := Nd.eqL_len hl
  subst e1; subst e2
  have hl2 : ((xs.length : Int) == (ys.length : Int)) = false := by rw [beq_eq_false_iff_ne]; omega
  clear h1 h2 hl q3 q5 q6
  go_enter Tryz.func149, Tryz.ntmps149
  go_wp2
  go_ret
  exact ⟨ret_bool H.out.symm, Below.refl _ _⟩

set_option maxHeartbeats 8000000 in
set_option maxRecDepth 100000 in
theorem refSame6 (n : Nat) (q7 : RefSameOf 218 n 7) (q6 : RefSameOf 150 n 6) (q0 : RefSameOf 43 n 0) : RefSameOf 150 (n + 1) 6 := by
 intro w v1 v2 xs ys h1 h2
 obtain ⟨a1, c1, e1, hx⟩ := h1.form
 obtain ⟨a2, c2, e2, hy⟩ := h2.form
 unfold maxLen at hx hy
 by_cases hl : xs.length = ys.length
 ·
  by_cases h0 : ys = []
  ·
   subst h0
   obtain rfl : xs = [] := List.eq_nil_of_length_eq_zero (by simpa using hl)
   subst e1; subst e2
   clear h1 h2 q7 q6 q0
   go_enter Tryz.func150, Tryz.ntmps150
   go_wp2
   go_loopw [5] (fun v wr => v = .int .i64 0 ∧ wr = w) (fun _ _ => 0)
   case atStart => exact ⟨rfl, rfl⟩
   case round =>
    obtain ⟨rfl, rfl⟩ := hrel
    go_wp2
    go_ret
    exact ⟨ret_bool Nd.eqL_nil.symm, Below.refl _ _⟩
  ·
   have h0x : ¬ xs = [] := fun e => h0 (List.eq_nil_of_length_eq_zero (by rw [← hl, e]; rfl))
   clear e1 e2
   obtain ⟨g1, o1, c1, rfl, -, -, -, k1⟩ := h1.resolve_right (fun h => h0x h.1)
   obtain ⟨g2, o2, c2, rfl, -, -, -, k2⟩ := h2.resolve_right (fun h => h0 h.1)
   have HL : Hid (xs.length = ys.length) := hl
   have hw2 : ys.length = xs.length := hl.symm
   rw [hw2]
   clear h1 h2 hl h0 h0x hy hw2
   go_enter Tryz.func150, Tryz.ntmps150
   go_wp2
   go_loopw [5] (fun v wr => ∃ k : Nat, v = .int .i64 k ∧ k ≤ xs.length ∧ Hid (Nd.eqL xs ys = Nd.eqL (xs.drop k) (ys.drop k)) ∧ Below w.heap.size w wr) (fun v _ => xs.length - (intOf v).toNat)
   case atStart => exact ⟨0, rfl, Nat.zero_le _, rfl, Below.refl _ _⟩
   case round =>
    obtain ⟨k, rfl, hk, hH, hB⟩ := hrel
    by_cases hlt : k < xs.length
    ·
     obtain ⟨x, hxk⟩ : ∃ x, xs[k]? = some x := ⟨_, List.getElem?_eq_getElem hlt⟩
     obtain ⟨y, hyk⟩ : ∃ y, ys[k]? = some y := ⟨_, List.getElem?_eq_getElem (by rw [← HL.out]; exact hlt)⟩
     obtain ⟨va, -, ca, ta⟩ := k1 k x hxk
     obtain ⟨vb, -, cb, tb⟩ := k2 k y hyk
     replace ca := ca.move trivial (Keeps.of_below (K := Any) hB)
     replace cb := cb.move trivial (Keeps.of_below (K := Any) hB)
     replace ta := At.move (Keeps.of_below hB) (fun _ h => h) _ _ _ _ ta
     replace tb := At.move (Keeps.of_below hB) (fun _ h => h) _ _ _ _ tb
     obtain ⟨i0a, p1a, x1a, v0a, l0a, v1a, l1a, v2a, l2a, rfl, rfl, -, ⟨tx1a, -, ln1a⟩, k0a, k1a, k2a⟩ := At.sig ta
     obtain ⟨i0b, p1b, x1b, v0b, l0b, v1b, l1b, v2b, l2b, rfl, rfl, -, ⟨tx1b, -, ln1b⟩, k0b, k1b, k2b⟩ := At.sig tb
     clear ta tb k1 k2
     have TX1a : Hid (∀ w', Below wr.heap.size wr w' → Strs w' p1a x1a) := fun w' h' => (tx1a.move (Keeps.of_below h') (fun _ h => h)).strs
     obtain ⟨pa1a, pc1a, rfl⟩ := tx1a.form
     clear tx1a
     have TX1b : Hid (∀ w', Below wr.heap.size wr w' → Strs w' p1b x1b) := fun w' h' => (tx1b.move (Keeps.of_below h') (fun _ h => h)).strs
     obtain ⟨pa1b, pc1b, rfl⟩ := tx1b.form
     clear tx1b
     have R0 : Hid (∀ w', Below wr.heap.size wr w' → Calls Tryz.prog 218 #[v0a, v0b] w' fun e w'' => e = .returned (.bool (Nd.eqL l0a l0b)) ∧ Below w'.heap.size w' w'') := fun w' h' => q7 w' v0a v0b l0a l0b (k0a.below h') (k0b.below h')
     obtain ⟨da0a, dc0a, rfl, -⟩ := k0a.form
     clear k0a
     obtain ⟨da0b, dc0b, rfl, -⟩ := k0b.form
     clear k0b
     have R1 : Hid (∀ w', Below wr.heap.size wr w' → Calls Tryz.prog 150 #[v1a, v1b] w' fun e w'' => e = .returned (.bool (Nd.eqL l1a l1b)) ∧ Below w'.heap.size w' w'') := fun w' h' => q6 w' v1a v1b l1a l1b (k1a.below h') (k1b.below h')
     obtain ⟨da1a, dc1a, rfl, -⟩ := k1a.form
     clear k1a
     obtain ⟨da1b, dc1b, rfl, -⟩ := k1b.form
     clear k1b
     have R2 : Hid (∀ w', Below wr.heap.size wr w' → Calls Tryz.prog 43 #[v2a, v2b] w' fun e w'' => e = .returned (.bool (Nd.eqL l2a l2b)) ∧ Below w'.heap.size w' w'') := fun w' h' => q0 w' v2a v2b l2a l2b (k2a.below h') (k2b.below h')
     obtain ⟨da2a, dc2a, rfl, -⟩ := k2a.form
     clear k2a
     obtain ⟨da2b, dc2b, rfl, -⟩ := k2b.form
     clear k2b
     clear q7 q6 q0
     have xc0 : wr.cell? ⟨g1, o1 + k * 5, none⟩ = some (.int .i64 i0a) := ca 0 _ rfl
     have yc0 : wr.cell? ⟨g2, o2 + k * 5, none⟩ = some (.int .i64 i0b) := cb 0 _ rfl
     have xc1 : wr.cell? ⟨g1, o1 + k * 5 + 1, none⟩ = some (.slice pa1a x1a.length pc1a) := ca 1 _ rfl
     have yc1 : wr.cell? ⟨g2, o2 + k * 5 + 1, none⟩ = some (.slice pa1b x1b.length pc1b) := cb 1 _ rfl
     have xc2 : wr.cell? ⟨g1, o1 + k * 5 + 2, none⟩ = some (.slice da0a l0a.length dc0a) := ca 2 _ rfl
     have yc2 : wr.cell? ⟨g2, o2 + k * 5 + 2, none⟩ = some (.slice da0b l0b.length dc0b) := cb 2 _ rfl
     have xc3 : wr.cell? ⟨g1, o1 + k * 5 + 3, none⟩ = some (.slice da1a l1a.length dc1a) := ca 3 _ rfl
     have yc3 : wr.cell? ⟨g2, o2 + k * 5 + 3, none⟩ = some (.slice da1b l1b.length dc1b) := cb 3 _ rfl
     have xc4 : wr.cell? ⟨g1, o1 + k * 5 + 4, none⟩ = some (.slice da2a l2a.length dc2a) := ca 4 _ rfl
     have yc4 : wr.cell? ⟨g2, o2 + k * 5 + 4, none⟩ = some (.slice da2b l2b.length dc2b) := cb 4 _ rfl
     have hg1 : g1 < wr.heap.size := World.block_lt_of_cell? wr _ xc0
     have hg2 : g2 < wr.heap.size := World.block_lt_of_cell? wr _ yc0
     have hg3 : g1 < wr.heap.size + 1 := Nat.lt_succ_of_lt hg1
     have hg4 : g2 < wr.heap.size + 1 := Nat.lt_succ_of_lt hg2
     clear ca cb
     have HE : Hid (Nd.eqL xs ys = ((decide (i0a = i0b) && (decide (x1a = x1b) && (Nd.eqL l0a l0b && (Nd.eqL l1a l1b && Nd.eqL l2a l2b)))) && Nd.eqL (xs.drop (k + 1)) (ys.drop (k + 1)))) := by
      show _ = _
      rw [hH.out, Nd.eqL_at hxk hyk]
      congr 1
      rw [Bool.eq_iff_iff]
      simp only [Nd.eq_true, Nd.eqL_true, Bool.and_eq_true, decide_eq_true_eq, Nd.mk.injEq, List.cons.injEq, Sc.int.injEq, Sc.strs.injEq, and_true]
      constructor
      ·
       intro h; simp only [h, and_self]
      ·
       intro h; simp only [h, and_self]
     clear hH hxk hyk
     have hF0 := Fr.start wr [.int .i64 i0a, .slice pa1a x1a.length pc1a, .slice da0a l0a.length dc0a, .slice da1a l1a.length dc1a, .slice da2a l2a.length dc2a] [.int .i64 i0b, .slice pa1b x1b.length pc1b, .slice da0b l0b.length dc0b, .slice da1b l1b.length dc1b, .slice da2b l2b.length dc2b] 216
     have hFd := hF0.drew
     have hEd := (Fr.start wr [.int .i64 i0b, .slice pa1b x1b.length pc1b, .slice da0b l0b.length dc0b, .slice da1b l1b.length dc1b, .slice da2b l2b.length dc2b] [.int .i64 i0a, .slice pa1a x1a.length pc1a, .slice da0a l0a.length dc0a, .slice da1a l1a.length dc1a, .slice da2a l2a.length dc2a] 216).drew
     by_cases h0 : i0a = i0b
     ·
      subst h0
      rw [decide_eq_true rfl, Bool.true_and] at HE
      have r1 : ∀ w', Strs w' (.slice pa1a x1a.length pc1a) x1a → Strs w' (.slice pa1b x1b.length pc1b) x1b → _ := fun w' h1 h2 => refTexts_b _ _ x1a x1b w' h1 h2 ln1a ln1b
      cases h1 : decide (x1a = x1b) with
      | true =>
       rw [h1, Bool.true_and] at HE
       simp only [h1] at r1
       clear h1
       have r2 := R0.out
       cases h2 : Nd.eqL l0a l0b with
       | true =>
        rw [h2, Bool.true_and] at HE
        simp only [h2] at r2
        clear h2
        have r3 := R1.out
        cases h3 : Nd.eqL l1a l1b with
        | true =>
         rw [h3, Bool.true_and] at HE
         simp only [h3] at r3
         clear h3
         have r4 := R2.out
         cases h4 : Nd.eqL l2a l2b with
         | true =>
          rw [h4, Bool.true_and] at HE
          simp only [h4] at r4
          clear h4
          go_wp2
          go_region
          all_goals (
           go_wp2_with (first | (go_at_call 43; refine (r4 _ hF3.bl).mono ?_; rintro e w4 ⟨rfl, hb4⟩; have hF4 := hF3.step hb4; clear hb4) | (go_at_call 150; refine (r3 _ hF2.bl).mono ?_; rintro e w3 ⟨rfl, hb3⟩; have hF3 := hF2.step hb3; have fa4_2 := hF3.a 4 _ rfl; have fb4_2 := hF3.b 4 _ rfl; clear hb3) | (go_at_call 218; refine (r2 _ hF1.bl).mono ?_; rintro e w2 ⟨rfl, hb2⟩; have hF2 := hF1.step hb2; have fa3_1 := hF2.a 3 _ rfl; have fb3_1 := hF2.b 3 _ rfl; have fa4_1 := hF2.a 4 _ rfl; have fb4_1 := hF2.b 4 _ rfl; clear hb2) | (go_at_call 80; refine (r1 _ (TX1a.out _ hEd.bl) (TX1b.out _ hEd.bl)).mono ?_; rintro e w1 ⟨rfl, hb1⟩; have hF1 := hEd.step hb1; have fa2_0 := hF1.a 2 _ rfl; have fb2_0 := hF1.b 2 _ rfl; have fa3_0 := hF1.a 3 _ rfl; have fb3_0 := hF1.b 3 _ rfl; have fa4_0 := hF1.a 4 _ rfl; have fb4_0 := hF1.b 4 _ rfl; clear hb1) | (go_at_call 80; refine (r1 _ (TX1a.out _ hFd.bl) (TX1b.out _ hFd.bl)).mono ?_; rintro e w1 ⟨rfl, hb1⟩; have hF1 := hFd.step hb1; have fa2_0 := hF1.a 2 _ rfl; have fb2_0 := hF1.b 2 _ rfl; have fa3_0 := hF1.a 3 _ rfl; have fb3_0 := hF1.b 3 _ rfl; have fa4_0 := hF1.a 4 _ rfl; have fb4_0 := hF1.b 4 _ rfl; clear hb1))
           go_roundw
           case rel => exact ⟨k + 1, by go_num, by omega, HE, (bl_tr hB hF4.bl)⟩
           case measure => simp [intOf]; omega)
         | false =>
          rw [h4, Bool.false_and] at HE
          simp only [h4] at r4
          clear h4
          go_wp2
          go_region
          all_goals (
           go_wp2_with (first | (go_at_call 43; refine (r4 _ hF3.bl).mono ?_; rintro e w4 ⟨rfl, hb4⟩; have hF4 := hF3.step hb4; clear hb4) | (go_at_call 150; refine (r3 _ hF2.bl).mono ?_; rintro e w3 ⟨rfl, hb3⟩; have hF3 := hF2.step hb3; have fa4_2 := hF3.a 4 _ rfl; have fb4_2 := hF3.b 4 _ rfl; clear hb3) | (go_at_call 218; refine (r2 _ hF1.bl).mono ?_; rintro e w2 ⟨rfl, hb2⟩; have hF2 := hF1.step hb2; have fa3_1 := hF2.a 3 _ rfl; have fb3_1 := hF2.b 3 _ rfl; have fa4_1 := hF2.a 4 _ rfl; have fb4_1 := hF2.b 4 _ rfl; clear hb2) | (go_at_call 80; refine (r1 _ (TX1a.out _ hEd.bl) (TX1b.out _ hEd.bl)).mono ?_; rintro e w1 ⟨rfl, hb1⟩; have hF1 := hEd.step hb1; have fa2_0 := hF1.a 2 _ rfl; have fb2_0 := hF1.b 2 _ rfl; have fa3_0 := hF1.a 3 _ rfl; have fb3_0 := hF1.b 3 _ rfl; have fa4_0 := hF1.a 4 _ rfl; have fb4_0 := hF1.b 4 _ rfl; clear hb1) | (go_at_call 80; refine (r1 _ (TX1a.out _ hFd.bl) (TX1b.out _ hFd.bl)).mono ?_; rintro e w1 ⟨rfl, hb1⟩; have hF1 := hFd.step hb1; have fa2_0 := hF1.a 2 _ rfl; have fb2_0 := hF1.b 2 _ rfl; have fa3_0 := hF1.a 3 _ rfl; have fb3_0 := hF1.b 3 _ rfl; have fa4_0 := hF1.a 4 _ rfl; have fb4_0 := hF1.b 4 _ rfl; clear hb1))
           go_ret
           exact ⟨ret_bool (HE.out.symm), (bl_tr hB hF4.bl)⟩)
        | false =>
         rw [h3, Bool.false_and, Bool.false_and] at HE
         simp only [h3] at r3
         clear h3
         go_wp2
         go_region
         all_goals (
          go_wp2_with (first | (go_at_call 150; refine (r3 _ hF2.bl).mono ?_; rintro e w3 ⟨rfl, hb3⟩; have hF3 := hF2.step hb3; clear hb3) | (go_at_call 218; refine (r2 _ hF1.bl).mono ?_; rintro e w2 ⟨rfl, hb2⟩; have hF2 := hF1.step hb2; have fa3_1 := hF2.a 3 _ rfl; have fb3_1 := hF2.b 3 _ rfl; clear hb2) | (go_at_call 80; refine (r1 _ (TX1a.out _ hEd.bl) (TX1b.out _ hEd.bl)).mono ?_; rintro e w1 ⟨rfl, hb1⟩; have hF1 := hEd.step hb1; have fa2_0 := hF1.a 2 _ rfl; have fb2_0 := hF1.b 2 _ rfl; have fa3_0 := hF1.a 3 _ rfl; have fb3_0 := hF1.b 3 _ rfl; clear hb1) | (go_at_call 80; refine (r1 _ (TX1a.out _ hFd.bl) (TX1b.out _ hFd.bl)).mono ?_; rintro e w1 ⟨rfl, hb1⟩; have hF1 := hFd.step hb1; have fa2_0 := hF1.a 2 _ rfl; have fb2_0 := hF1.b 2 _ rfl; have fa3_0 := hF1.a 3 _ rfl; have fb3_0 := hF1.b 3 _ rfl; clear hb1))
          go_ret
          exact ⟨ret_bool (HE.out.symm), (bl_tr hB hF3.bl)⟩)
       | false =>
        rw [h2, Bool.false_and, Bool.false_and] at HE
        simp only [h2] at r2
        clear h2
        go_wp2
        go_region
        all_goals (
         go_wp2_with (first | (go_at_call 218; refine (r2 _ hF1.bl).mono ?_; rintro e w2 ⟨rfl, hb2⟩; have hF2 := hF1.step hb2; clear hb2) | (go_at_call 80; refine (r1 _ (TX1a.out _ hEd.bl) (TX1b.out _ hEd.bl)).mono ?_; rintro e w1 ⟨rfl, hb1⟩; have hF1 := hEd.step hb1; have fa2_0 := hF1.a 2 _ rfl; have fb2_0 := hF1.b 2 _ rfl; clear hb1) | (go_at_call 80; refine (r1 _ (TX1a.out _ hFd.bl) (TX1b.out _ hFd.bl)).mono ?_; rintro e w1 ⟨rfl, hb1⟩; have hF1 := hFd.step hb1; have fa2_0 := hF1.a 2 _ rfl; have fb2_0 := hF1.b 2 _ rfl; clear hb1))
         go_ret
         exact ⟨ret_bool (HE.out.symm), (bl_tr hB hF2.bl)⟩)
      | false =>
       rw [h1, Bool.false_and, Bool.false_and] at HE
       simp only [h1] at r1
       clear h1
       go_wp2
       go_region
       all_goals (
        go_wp2_with (first | (go_at_call 80; refine (r1 _ (TX1a.out _ hEd.bl) (TX1b.out _ hEd.bl)).mono ?_; rintro e w1 ⟨rfl, hb1⟩; have hF1 := hEd.step hb1; clear hb1) | (go_at_call 80; refine (r1 _ (TX1a.out _ hFd.bl) (TX1b.out _ hFd.bl)).mono ?_; rintro e w1 ⟨rfl, hb1⟩; have hF1 := hFd.step hb1; clear hb1))
        go_ret
        exact ⟨ret_bool (HE.out.symm), (bl_tr hB hF1.bl)⟩)
     ·
      rw [decide_eq_false h0, Bool.false_and, Bool.false_and] at HE
      have gq0 : (i0a == i0b) = false := by rw [beq_eq_false_iff_ne]; exact h0
      have gn0 : (i0a != i0b) = true := by rw [bne_iff_ne]; exact h0
      go_wp2
      go_region
      all_goals (
       go_wp2
       go_ret
       exact ⟨ret_bool (HE.out.symm), (bl_tr hB (by first | exact hFd.bl | exact hEd.bl))⟩)
    ·
     have HX : Hid (Nd.eqL xs ys = true) := by
      show _ = _
      rw [hH.out, List.drop_eq_nil_of_le (by omega), List.drop_eq_nil_of_le (by have := HL.out; omega)]; exact Nd.eqL_nil
     clear hH k1 k2 q7 q6 q0
     go_wp2
     go_ret
     exact ⟨ret_bool HX.out.symm, hB⟩
 ·
  have H : Hid (Nd.eqL xs ys = false) := Nd.eqL_len hl
  subst e1; subst e2
  have hl2 : ((xs.length : Int) == (ys.length : Int)) = false := by rw [beq_eq_false_iff_ne]; omega
  clear h1 h2 hl q7 q6 q0
  go_enter Tryz.func150, Tryz.ntmps150
  go_wp2
  go_ret
  exact ⟨ret_bool H.out.symm, Below.refl _ _⟩

set_option maxHeartbeats 8000000 in
set_option maxRecDepth 100000 in
theorem refSame7 (n : Nat) (q0 : RefSameOf 43 n 0) (q4 : RefSameOf 148 n 4) (q6 : RefSameOf 150 n 6) : RefSameOf 218 (n + 1) 7 := by
 intro w v1 v2 xs ys h1 h2
 obtain ⟨a1, c1, e1, hx⟩ := h1.form
 obtain ⟨a2, c2, e2, hy⟩ := h2.form
 unfold maxLen at hx hy
 by_cases hl : xs.length = ys.length
 ·
  by_cases h0 : ys = []
  ·
   subst h0
   obtain rfl : xs = [] := List.eq_nil_of_length_eq_zero (by simpa using hl)
   subst e1; subst e2
   clear h1 h2 q0 q4 q6
   go_enter Tryz.func218, Tryz.ntmps218
   go_wp2
   go_loopw [5] (fun v wr => v = .int .i64 0 ∧ wr = w) (fun _ _ => 0)
   case atStart => exact ⟨rfl, rfl⟩
   case round =>
    obtain ⟨rfl, rfl⟩ := hrel
    go_wp2
    go_ret
    exact ⟨ret_bool Nd.eqL_nil.symm, Below.refl _ _⟩
  ·
   have h0x : ¬ xs = [] := fun e => h0 (List.eq_nil_of_length_eq_zero (by rw [← hl, e]; rfl))
   clear e1 e2
   obtain ⟨g1, o1, c1, rfl, -, -, -, k1⟩ := h1.resolve_right (fun h => h0x h.1)
   obtain ⟨g2, o2, c2, rfl, -, -, -, k2⟩ := h2.resolve_right (fun h => h0 h.1)
   have HL : Hid (xs.length = ys.length) := hl
   have hw2 : ys.length = xs.length := hl.symm
   rw [hw2]
   clear h1 h2 hl h0 h0x hy hw2
   go_enter Tryz.func218, Tryz.ntmps218
   go_wp2
   go_loopw [5] (fun v wr => ∃ k : Nat, v = .int .i64 k ∧ k ≤ xs.length ∧ Hid (Nd.eqL xs ys = Nd.eqL (xs.drop k) (ys.drop k)) ∧ Below w.heap.size w wr) (fun v _ => xs.length - (intOf v).toNat)
   case atStart => exact ⟨0, rfl, Nat.zero_le _, rfl, Below.refl _ _⟩
   case round =>
    obtain ⟨k, rfl, hk, hH, hB⟩ := hrel
    by_cases hlt : k < xs.length
    ·
     obtain ⟨x, hxk⟩ : ∃ x, xs[k]? = some x := ⟨_, List.getElem?_eq_getElem hlt⟩
     obtain ⟨y, hyk⟩ : ∃ y, ys[k]? = some y := ⟨_, List.getElem?_eq_getElem (by rw [← HL.out]; exact hlt)⟩
     obtain ⟨va, -, ca, ta⟩ := k1 k x hxk
     obtain ⟨vb, -, cb, tb⟩ := k2 k y hyk
     replace ca := ca.move trivial (Keeps.of_below (K := Any) hB)
     replace cb := cb.move trivial (Keeps.of_below (K := Any) hB)
     replace ta := At.move (Keeps.of_below hB) (fun _ h => h) _ _ _ _ ta
     replace tb := At.move (Keeps.of_below hB) (fun _ h => h) _ _ _ _ tb
     obtain ⟨i0a, i1a, s2a, v0a, l0a, v1a, l1a, v2a, l2a, rfl, rfl, -, -, -, k0a, k1a, k2a⟩ := At.spec ta
     obtain ⟨i0b, i1b, s2b, v0b, l0b, v1b, l1b, v2b, l2b, rfl, rfl, -, -, -, k0b, k1b, k2b⟩ := At.spec tb
     clear ta tb k1 k2
     have R0 : Hid (∀ w', Below wr.heap.size wr w' → Calls Tryz.prog 43 #[v0a, v0b] w' fun e w'' => e = .returned (.bool (Nd.eqL l0a l0b)) ∧ Below w'.heap.size w' w'') := fun w' h' => q0 w' v0a v0b l0a l0b (k0a.below h') (k0b.below h')
     obtain ⟨da0a, dc0a, rfl, -⟩ := k0a.form
     clear k0a
     obtain ⟨da0b, dc0b, rfl, -⟩ := k0b.form
     clear k0b
     have R1 : Hid (∀ w', Below wr.heap.size wr w' → Calls Tryz.prog 148 #[v1a, v1b] w' fun e w'' => e = .returned (.bool (Nd.eqL l1a l1b)) ∧ Below w'.heap.size w' w'') := fun w' h' => q4 w' v1a v1b l1a l1b (k1a.below h') (k1b.below h')
     obtain ⟨da1a, dc1a, rfl, -⟩ := k1a.form
     clear k1a
     obtain ⟨da1b, dc1b, rfl, -⟩ := k1b.form
     clear k1b
     have R2 : Hid (∀ w', Below wr.heap.size wr w' → Calls Tryz.prog 150 #[v2a, v2b] w' fun e w'' => e = .returned (.bool (Nd.eqL l2a l2b)) ∧ Below w'.heap.size w' w'') := fun w' h' => q6 w' v2a v2b l2a l2b (k2a.below h') (k2b.below h')
     obtain ⟨da2a, dc2a, rfl, -⟩ := k2a.form
     clear k2a
     obtain ⟨da2b, dc2b, rfl, -⟩ := k2b.form
     clear k2b
     clear q0 q4 q6
     have xc0 : wr.cell? ⟨g1, o1 + k * 6, none⟩ = some (.int .i64 i0a) := ca 0 _ rfl
     have yc0 : wr.cell? ⟨g2, o2 + k * 6, none⟩ = some (.int .i64 i0b) := cb 0 _ rfl
     have xc1 : wr.cell? ⟨g1, o1 + k * 6 + 1, none⟩ = some (.int .i64 i1a) := ca 1 _ rfl
     have yc1 : wr.cell? ⟨g2, o2 + k * 6 + 1, none⟩ = some (.int .i64 i1b) := cb 1 _ rfl
     have xc2 : wr.cell? ⟨g1, o1 + k * 6 + 2, none⟩ = some (.string s2a) := ca 2 _ rfl
     have yc2 : wr.cell? ⟨g2, o2 + k * 6 + 2, none⟩ = some (.string s2b) := cb 2 _ rfl
     have xc3 : wr.cell? ⟨g1, o1 + k * 6 + 3, none⟩ = some (.slice da0a l0a.length dc0a) := ca 3 _ rfl
     have yc3 : wr.cell? ⟨g2, o2 + k * 6 + 3, none⟩ = some (.slice da0b l0b.length dc0b) := cb 3 _ rfl
     have xc4 : wr.cell? ⟨g1, o1 + k * 6 + 4, none⟩ = some (.slice da1a l1a.length dc1a) := ca 4 _ rfl
     have yc4 : wr.cell? ⟨g2, o2 + k * 6 + 4, none⟩ = some (.slice da1b l1b.length dc1b) := cb 4 _ rfl
     have xc5 : wr.cell? ⟨g1, o1 + k * 6 + 5, none⟩ = some (.slice da2a l2a.length dc2a) := ca 5 _ rfl
     have yc5 : wr.cell? ⟨g2, o2 + k * 6 + 5, none⟩ = some (.slice da2b l2b.length dc2b) := cb 5 _ rfl
     have hg1 : g1 < wr.heap.size := World.block_lt_of_cell? wr _ xc0
     have hg2 : g2 < wr.heap.size := World.block_lt_of_cell? wr _ yc0
     have hg3 : g1 < wr.heap.size + 1 := Nat.lt_succ_of_lt hg1
     have hg4 : g2 < wr.heap.size + 1 := Nat.lt_succ_of_lt hg2
     clear ca cb
     have HE : Hid (Nd.eqL xs ys = ((decide (i0a = i0b) && (decide (s2a = s2b) && (Nd.eqL l0a l0b && (Nd.eqL l1a l1b && Nd.eqL l2a l2b)))) && Nd.eqL (xs.drop (k + 1)) (ys.drop (k + 1)))) := by
      show _ = _
      rw [hH.out, Nd.eqL_at hxk hyk]
      congr 1
      rw [Bool.eq_iff_iff]
      simp only [Nd.eq_true, Nd.eqL_true, Bool.and_eq_true, decide_eq_true_eq, Nd.mk.injEq, List.cons.injEq, Sc.int.injEq, Sc.str.injEq, and_true, true_and]
      constructor
      ·
       intro h; simp only [h, and_self]
      ·
       intro h; simp only [h, and_self]
     clear hH hxk hyk
     have hF0 := Fr.start wr [.int .i64 i0a, .int .i64 i1a, .string s2a, .slice da0a l0a.length dc0a, .slice da1a l1a.length dc1a, .slice da2a l2a.length dc2a] [.int .i64 i0b, .int .i64 i1b, .string s2b, .slice da0b l0b.length dc0b, .slice da1b l1b.length dc1b, .slice da2b l2b.length dc2b] 244
     have hFd := hF0.drew
     have hEd := (Fr.start wr [.int .i64 i0b, .int .i64 i1b, .string s2b, .slice da0b l0b.length dc0b, .slice da1b l1b.length dc1b, .slice da2b l2b.length dc2b] [.int .i64 i0a, .int .i64 i1a, .string s2a, .slice da0a l0a.length dc0a, .slice da1a l1a.length dc1a, .slice da2a l2a.length dc2a] 244).drew
     by_cases h0 : i0a = i0b
     ·
      subst h0
      rw [decide_eq_true rfl, Bool.true_and] at HE
      by_cases h1 : s2a = s2b
      ·
       subst h1
       rw [decide_eq_true rfl, Bool.true_and] at HE
       have r3 := R0.out
       cases h2 : Nd.eqL l0a l0b with
       | true =>
        rw [h2, Bool.true_and] at HE
        simp only [h2] at r3
        clear h2
        have r4 := R1.out
        cases h3 : Nd.eqL l1a l1b with
        | true =>
         rw [h3, Bool.true_and] at HE
         simp only [h3] at r4
         clear h3
         have r5 := R2.out
         cases h4 : Nd.eqL l2a l2b with
         | true =>
          rw [h4, Bool.true_and] at HE
          simp only [h4] at r5
          clear h4
          go_wp2
          go_region
          all_goals (
           go_wp2_with (first | (go_at_call 150; refine (r5 _ hF2.bl).mono ?_; rintro e w3 ⟨rfl, hb3⟩; have hF3 := hF2.step hb3; clear hb3) | (go_at_call 148; refine (r4 _ hF1.bl).mono ?_; rintro e w2 ⟨rfl, hb2⟩; have hF2 := hF1.step hb2; have fa5_1 := hF2.a 5 _ rfl; have fb5_1 := hF2.b 5 _ rfl; clear hb2) | (go_at_call 43; refine (r3 _ hEd.bl).mono ?_; rintro e w1 ⟨rfl, hb1⟩; have hF1 := hEd.step hb1; have fa4_0 := hF1.a 4 _ rfl; have fb4_0 := hF1.b 4 _ rfl; have fa5_0 := hF1.a 5 _ rfl; have fb5_0 := hF1.b 5 _ rfl; clear hb1) | (go_at_call 43; refine (r3 _ hFd.bl).mono ?_; rintro e w1 ⟨rfl, hb1⟩; have hF1 := hFd.step hb1; have fa4_0 := hF1.a 4 _ rfl; have fb4_0 := hF1.b 4 _ rfl; have fa5_0 := hF1.a 5 _ rfl; have fb5_0 := hF1.b 5 _ rfl; clear hb1))
           go_roundw
           case rel => exact ⟨k + 1, by go_num, by omega, HE, (bl_tr hB hF3.bl)⟩
           case measure => simp [intOf]; omega)
         | false =>
          rw [h4, Bool.false_and] at HE
          simp only [h4] at r5
          clear h4
          go_wp2
          go_region
          all_goals (
           go_wp2_with (first | (go_at_call 150; refine (r5 _ hF2.bl).mono ?_; rintro e w3 ⟨rfl, hb3⟩; have hF3 := hF2.step hb3; clear hb3) | (go_at_call 148; refine (r4 _ hF1.bl).mono ?_; rintro e w2 ⟨rfl, hb2⟩; have hF2 := hF1.step hb2; have fa5_1 := hF2.a 5 _ rfl; have fb5_1 := hF2.b 5 _ rfl; clear hb2) | (go_at_call 43; refine (r3 _ hEd.bl).mono ?_; rintro e w1 ⟨rfl, hb1⟩; have hF1 := hEd.step hb1; have fa4_0 := hF1.a 4 _ rfl; have fb4_0 := hF1.b 4 _ rfl; have fa5_0 := hF1.a 5 _ rfl; have fb5_0 := hF1.b 5 _ rfl; clear hb1) | (go_at_call 43; refine (r3 _ hFd.bl).mono ?_; rintro e w1 ⟨rfl, hb1⟩; have hF1 := hFd.step hb1; have fa4_0 := hF1.a 4 _ rfl; have fb4_0 := hF1.b 4 _ rfl; have fa5_0 := hF1.a 5 _ rfl; have fb5_0 := hF1.b 5 _ rfl; clear hb1))
           go_ret
           exact ⟨ret_bool (HE.out.symm), (bl_tr hB hF3.bl)⟩)
        | false =>
         rw [h3, Bool.false_and, Bool.false_and] at HE
         simp only [h3] at r4
         clear h3
         go_wp2
         go_region
         all_goals (
          go_wp2_with (first | (go_at_call 148; refine (r4 _ hF1.bl).mono ?_; rintro e w2 ⟨rfl, hb2⟩; have hF2 := hF1.step hb2; clear hb2) | (go_at_call 43; refine (r3 _ hEd.bl).mono ?_; rintro e w1 ⟨rfl, hb1⟩; have hF1 := hEd.step hb1; have fa4_0 := hF1.a 4 _ rfl; have fb4_0 := hF1.b 4 _ rfl; clear hb1) | (go_at_call 43; refine (r3 _ hFd.bl).mono ?_; rintro e w1 ⟨rfl, hb1⟩; have hF1 := hFd.step hb1; have fa4_0 := hF1.a 4 _ rfl; have fb4_0 := hF1.b 4 _ rfl; clear hb1))
          go_ret
          exact ⟨ret_bool (HE.out.symm), (bl_tr hB hF2.bl)⟩)
       | false =>
        rw [h2, Bool.false_and, Bool.false_and] at HE
        simp only [h2] at r3
        clear h2
        go_wp2
        go_region
        all_goals (
         go_wp2_with (first | (go_at_call 43; refine (r3 _ hEd.bl).mono ?_; rintro e w1 ⟨rfl, hb1⟩; have hF1 := hEd.step hb1; clear hb1) | (go_at_call 43; refine (r3 _ hFd.bl).mono ?_; rintro e w1 ⟨rfl, hb1⟩; have hF1 := hFd.step hb1; clear hb1))
         go_ret
         exact ⟨ret_bool (HE.out.symm), (bl_tr hB hF1.bl)⟩)
      ·
       rw [decide_eq_false h1, Bool.false_and, Bool.false_and] at HE
       have gq1 : (s2a.toList == s2b.toList) = false := by rw [Nm.str_eq, decide_eq_false h1]
       clear h1
       go_wp2
       go_region
       all_goals (
        go_wp2
        go_ret
        exact ⟨ret_bool (HE.out.symm), (bl_tr hB (by first | exact hFd.bl | exact hEd.bl))⟩)
     ·
      rw [decide_eq_false h0, Bool.false_and, Bool.false_and] at HE
      have gq0 : (i0a == i0b) = false := by rw [beq_eq_false_iff_ne]; exact h0
      have gn0 : (i0a != i0b) = true := by rw [bne_iff_ne]; exact h0
      go_wp2
      go_region
      all_goals (
       go_wp2
       go_ret
       exact ⟨ret_bool (HE.out.symm), (bl_tr hB (by first | exact hFd.bl | exact hEd.bl))⟩)
    ·
     have HX : Hid (Nd.eqL xs ys = true) := by
      show _ = _
      rw [hH.out, List.drop_eq_nil_of_le (by omega), List.drop_eq_nil_of_le (by have := HL.out; omega)]; exact Nd.eqL_nil
     clear hH k1 k2 q0 q4 q6
     go_wp2
     go_ret
     exact ⟨ret_bool HX.out.symm, hB⟩
 ·
  have H : Hid (Nd.eqL xs ys = false) := Nd.eqL_len hl
  subst e1; subst e2
  have hl2 : ((xs.length : Int) == (ys.length : Int)) = false := by rw [beq_eq_false_iff_ne]; omega
  clear h1 h2 hl q0 q4 q6
  go_enter Tryz.func218, Tryz.ntmps218
  go_wp2
  go_ret
  exact ⟨ret_bool H.out.symm, Below.refl _ _⟩

def Al.one : Nd := .mk [.int 1, .int 0, .int 1, .strs []] [[], [], [], []]
def Al.pair : Nd := .mk [.int 9, .int 0, .int 0, .strs []] [[], [Al.one, Al.one], [], []]
def Al.dec : Nd := .mk [.int 1, .int 0, .str ⟨#[120]⟩, .strs []] [[], [Al.pair], [], [], []]
def Al.fn : Nd := .mk [.int 7, .int 0, .int 0, .strs []] [[], [], [], []]
def Al.var : Nd := .mk [.int 5, .int 0, .int 0, .strs [⟨#[65]⟩]] [[], [], [], []]
theorem Al.r0 : Nd.rightL [Al.dec] = (0, 0) := by kernel_rfl
theorem Al.r1 : (Nd.meter [Al.dec]).a = 4 := by kernel_rfl
theorem Al.r2 : (Nd.meter [Al.dec]).d = 3 := by kernel_rfl
theorem Al.r3 : Nd.rightX Al.fn = 1 := by kernel_rfl
theorem Al.r4 : Nd.rightX Al.var = 12 := by kernel_rfl

theorem AtL.none (W : World) (n s : Nat) (p : Option Addr) (c : Nat) : AtL W Any n s (.slice p 0 c) [] := .inr ⟨rfl, p, c, rfl⟩
theorem Tx.none (W : World) (p : Option Addr) (c : Nat) : Tx W Any (.slice p 0 c) [] := .inr ⟨rfl, p, c, rfl⟩
theorem AtL.made {W : World} {n s : Nat} {arr : List Value} {t : TypeId} {l : List Nd} {m : Nat} (hm : l.length = m) (hl : m ≤ maxLen) (h : ∀ (i : Nat) x, l[i]? = some x → ∃ vs, vs.length = Nd.size s ∧ (∀ (j : Nat) v, vs[j]? = some v → arr[i * Nd.size s + j]? = some v) ∧ At W Any n s vs x) :
  AtL (W.alloc (.cells arr.toArray t)) Any n s (.slice (some ⟨W.heap.size, 0, .none⟩) m m) l := by
 subst hm
 refine .inl ⟨W.heap.size, 0, l.length, rfl, trivial, Nat.le_refl _, hl, fun i x hx => ?_⟩
 obtain ⟨vs, h1, h2, h3⟩ := h i x hx
 refine ⟨vs, h1, fun j v hv => ?_, At.move (Keeps.of_below (bl_alloc (Below.refl _ _) _)) (fun _ h => h) _ _ _ _ h3⟩
 rw [World.cell?_alloc_at _ _ _ _ rfl]
 have := h2 j v hv
 simpa using this
theorem Al.i64 : (-9223372036854775808 : Int) ≤ 0 ∧ (0 : Int) ≤ 9223372036854775807 := by decide
theorem AtL.made1 {W : World} {n s : Nat} {vs : List Value} {t : TypeId} {x : Nd} (hl : vs.length = Nd.size s) (h : At W Any n s vs x) : AtL (W.alloc (.cells vs.toArray t)) Any n s (.slice (some ⟨W.heap.size, 0, .none⟩) 1 1) [x] := by
 refine AtL.made rfl (by decide) fun i y hy => ?_
 cases i with
 | zero =>
  obtain rfl : x = y := by simpa using hy
  exact ⟨vs, hl, fun j v hv => by simpa using hv, h⟩
 | succ i => simp at hy



end Go.Proofs.YtjebepnphoeiaaaGreatDoor
