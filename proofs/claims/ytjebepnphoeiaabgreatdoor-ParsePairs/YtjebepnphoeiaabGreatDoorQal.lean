/- Pieces: NdX NdX1. -/
import Derived.Test.YtjebepnphoeiaabGreatDoorQac
import Derived.BigRegion
namespace Go.Proofs.YtjebepnphoeiaabGreatDoor
open Go.RowKit
set_option linter.unusedVariables false

def RefSameOf (f : FuncId) (n s : Nat) : Prop := ∀ (w : World) (v1 v2 : Value) (xs ys : List Nd), AtL w Any n s v1 xs → AtL w Any n s v2 ys →
 Calls Tryz.prog f #[v1, v2] w fun e w' => e = .returned (.bool (Nd.eqL xs ys)) ∧ Below w.heap.size w w'
theorem refTexts_b (a b : Value) (xs ys : List ByteArray) (w : World) (ha : Strs w a xs) (hb : Strs w b ys) (hx : xs.length ≤ maxLen) (hy : ys.length ≤ maxLen) :
  Calls Tryz.prog 25 #[a, b] w fun e w' => e = .returned (.bool (decide (xs = ys))) ∧ Below w.heap.size w w' :=
 (refTexts_any a b xs ys w ha hb hx hy).mono fun e w' ⟨h1, n, h2⟩ => ⟨h1, by rw [h2]; exact bl_drewN _ _⟩
theorem Fr.drew {w wc : World} {va vb : List Value} (h : Fr w wc va vb) : Fr w wc.drew va vb := ⟨h.bl.drew, h.sz, h.a, h.b⟩
set_option maxHeartbeats 8000000 in
set_option maxRecDepth 100000 in
theorem refSame1 (n : Nat) (q1 : RefSameOf 26 n 1) : RefSameOf 26 (n + 1) 1 := by
 intro w v1 v2 xs ys h1 h2
 obtain ⟨a1, c1, e1, hx⟩ := h1.form
 obtain ⟨a2, c2, e2, hy⟩ := h2.form
 unfold maxLen at hx hy
 by_cases hl : xs.length = ys.length
 ·
  by_cases h0 : ys = []
  ·
   subst h0
   obtain rfl : xs = [] := List.eq_nil_of_length_eq_zero (by simpa using hl)
   subst e1; subst e2
   clear h1 h2 q1
   go_enter Tryz.func26, Tryz.ntmps26
   go_wp2
   go_loopw [5] (fun v wr => v = .int .i64 0 ∧ wr = w) (fun _ _ => 0)
   case atStart => exact ⟨rfl, rfl⟩
   case round =>
    obtain ⟨rfl, rfl⟩ := hrel
    go_wp2
    go_ret
    exact ⟨ret_bool Nd.eqL_nil.symm, Below.refl _ _⟩
  ·
   have h0x : ¬ xs = [] := fun e => h0 (List.eq_nil_of_length_eq_zero (by rw [← hl, e]; rfl))
   clear e1 e2
   obtain ⟨g1, o1, c1, rfl, -, -, -, k1⟩ := h1.resolve_right (fun h => h0x h.1)
   obtain ⟨g2, o2, c2, rfl, -, -, -, k2⟩ := h2.resolve_right (fun h => h0 h.1)
   have HL : Hid (xs.length = ys.length) := hl
   have hw2 : ys.length = xs.length := hl.symm
   rw [hw2]
   clear h1 h2 hl h0 h0x hy hw2
   go_enter Tryz.func26, Tryz.ntmps26
   go_wp2
   go_loopw [5] (fun v wr => ∃ k : Nat, v = .int .i64 k ∧ k ≤ xs.length ∧ Hid (Nd.eqL xs ys = Nd.eqL (xs.drop k) (ys.drop k)) ∧ Below w.heap.size w wr) (fun v _ => xs.length - (intOf v).toNat)
   case atStart => exact ⟨0, rfl, Nat.zero_le _, rfl, Below.refl _ _⟩
   case round =>
    obtain ⟨k, rfl, hk, hH, hB⟩ := hrel
    by_cases hlt : k < xs.length
    ·
     obtain ⟨x, hxk⟩ : ∃ x, xs[k]? = some x := ⟨_, List.getElem?_eq_getElem hlt⟩
     obtain ⟨y, hyk⟩ : ∃ y, ys[k]? = some y := ⟨_, List.getElem?_eq_getElem (by rw [← HL.out]; exact hlt)⟩
     obtain ⟨va, -, ca, ta⟩ := k1 k x hxk
     obtain ⟨vb, -, cb, tb⟩ := k2 k y hyk
     replace ca := ca.move trivial (Keeps.of_below (K := Any) hB)
     replace cb := cb.move trivial (Keeps.of_below (K := Any) hB)
     replace ta := At.move (Keeps.of_below hB) (fun _ h => h) _ _ _ _ ta
     replace tb := At.move (Keeps.of_below hB) (fun _ h => h) _ _ _ _ tb
     obtain ⟨i0a, s1a, p2a, x2a, i3a, v0a, l0a, rfl, rfl, -, -, ⟨tx2a, -, ln2a⟩, -, k0a⟩ := At.pat ta
     obtain ⟨i0b, s1b, p2b, x2b, i3b, v0b, l0b, rfl, rfl, -, -, ⟨tx2b, -, ln2b⟩, -, k0b⟩ := At.pat tb
     clear ta tb k1 k2
     have TX2a : Hid (∀ w', Below wr.heap.size wr w' → Strs w' p2a x2a) := fun w' h' => (tx2a.move (Keeps.of_below h') (fun _ h => h)).strs
     obtain ⟨pa2a, pc2a, rfl⟩ := tx2a.form
     clear tx2a
     have TX2b : Hid (∀ w', Below wr.heap.size wr w' → Strs w' p2b x2b) := fun w' h' => (tx2b.move (Keeps.of_below h') (fun _ h => h)).strs
     obtain ⟨pa2b, pc2b, rfl⟩ := tx2b.form
     clear tx2b
     have R0 : Hid (∀ w', Below wr.heap.size wr w' → Calls Tryz.prog 26 #[v0a, v0b] w' fun e w'' => e = .returned (.bool (Nd.eqL l0a l0b)) ∧ Below w'.heap.size w' w'') := fun w' h' => q1 w' v0a v0b l0a l0b (k0a.below h') (k0b.below h')
     obtain ⟨da0a, dc0a, rfl, -⟩ := k0a.form
     clear k0a
     obtain ⟨da0b, dc0b, rfl, -⟩ := k0b.form
     clear k0b
     clear q1
     have xc0 : wr.cell? ⟨g1, o1 + k * 5, none⟩ = some (.int .i64 i0a) := ca 0 _ rfl
     have yc0 : wr.cell? ⟨g2, o2 + k * 5, none⟩ = some (.int .i64 i0b) := cb 0 _ rfl
     have xc1 : wr.cell? ⟨g1, o1 + k * 5 + 1, none⟩ = some (.string s1a) := ca 1 _ rfl
     have yc1 : wr.cell? ⟨g2, o2 + k * 5 + 1, none⟩ = some (.string s1b) := cb 1 _ rfl
     have xc2 : wr.cell? ⟨g1, o1 + k * 5 + 2, none⟩ = some (.slice pa2a x2a.length pc2a) := ca 2 _ rfl
     have yc2 : wr.cell? ⟨g2, o2 + k * 5 + 2, none⟩ = some (.slice pa2b x2b.length pc2b) := cb 2 _ rfl
     have xc3 : wr.cell? ⟨g1, o1 + k * 5 + 3, none⟩ = some (.int .i64 i3a) := ca 3 _ rfl
     have yc3 : wr.cell? ⟨g2, o2 + k * 5 + 3, none⟩ = some (.int .i64 i3b) := cb 3 _ rfl
     have xc4 : wr.cell? ⟨g1, o1 + k * 5 + 4, none⟩ = some (.slice da0a l0a.length dc0a) := ca 4 _ rfl
     have yc4 : wr.cell? ⟨g2, o2 + k * 5 + 4, none⟩ = some (.slice da0b l0b.length dc0b) := cb 4 _ rfl
     have hg1 : g1 < wr.heap.size := World.block_lt_of_cell? wr _ xc0
     have hg2 : g2 < wr.heap.size := World.block_lt_of_cell? wr _ yc0
     have hg3 : g1 < wr.heap.size + 1 := Nat.lt_succ_of_lt hg1
     have hg4 : g2 < wr.heap.size + 1 := Nat.lt_succ_of_lt hg2
     clear ca cb
     have HE : Hid (Nd.eqL xs ys = ((decide (i0a = i0b) && (decide (s1a = s1b) && (decide (i3a = i3b) && (decide (x2a = x2b) && Nd.eqL l0a l0b)))) && Nd.eqL (xs.drop (k + 1)) (ys.drop (k + 1)))) := by
      show _ = _
      rw [hH.out, Nd.eqL_at hxk hyk]
      congr 1
      rw [Bool.eq_iff_iff]
      simp only [Nd.eq_true, Nd.eqL_true, Bool.and_eq_true, decide_eq_true_eq, Nd.mk.injEq, List.cons.injEq, Sc.int.injEq, Sc.str.injEq, Sc.strs.injEq, and_true]
      constructor
      ·
       intro h; simp only [h, and_self]
      ·
       intro h; simp only [h, and_self]
     clear hH hxk hyk
     have hF0 := Fr.start wr [.int .i64 i0a, .string s1a, .slice pa2a x2a.length pc2a, .int .i64 i3a, .slice da0a l0a.length dc0a] [.int .i64 i0b, .string s1b, .slice pa2b x2b.length pc2b, .int .i64 i3b, .slice da0b l0b.length dc0b] 52
     have hFd := hF0.drew
     have hEd := (Fr.start wr [.int .i64 i0b, .string s1b, .slice pa2b x2b.length pc2b, .int .i64 i3b, .slice da0b l0b.length dc0b] [.int .i64 i0a, .string s1a, .slice pa2a x2a.length pc2a, .int .i64 i3a, .slice da0a l0a.length dc0a] 52).drew
     by_cases h0 : i0a = i0b
     ·
      subst h0
      rw [decide_eq_true rfl, Bool.true_and] at HE
      by_cases h1 : s1a = s1b
      ·
       subst h1
       rw [decide_eq_true rfl, Bool.true_and] at HE
       by_cases h2 : i3a = i3b
       ·
        subst h2
        rw [decide_eq_true rfl, Bool.true_and] at HE
        have r2 : ∀ w', Strs w' (.slice pa2a x2a.length pc2a) x2a → Strs w' (.slice pa2b x2b.length pc2b) x2b → _ := fun w' h1 h2 => refTexts_b _ _ x2a x2b w' h1 h2 ln2a ln2b
        cases h3 : decide (x2a = x2b) with
        | true =>
         rw [h3, Bool.true_and] at HE
         simp only [h3] at r2
         clear h3
         have r4 := R0.out
         cases h4 : Nd.eqL l0a l0b with
         | true =>
          rw [h4, Bool.true_and] at HE
          simp only [h4] at r4
          clear h4
          go_wp2
          go_region
          all_goals (
           go_wp2_with (first | (go_at_call 26; refine (r4 _ hF1.bl).mono ?_; rintro e w2 ⟨rfl, hb2⟩; have hF2 := hF1.step hb2; clear hb2) | (go_at_call 25; refine (r2 _ (TX2a.out _ hEd.bl) (TX2b.out _ hEd.bl)).mono ?_; rintro e w1 ⟨rfl, hb1⟩; have hF1 := hEd.step hb1; have fa4_0 := hF1.a 4 _ rfl; have fb4_0 := hF1.b 4 _ rfl; clear hb1) | (go_at_call 25; refine (r2 _ (TX2a.out _ hFd.bl) (TX2b.out _ hFd.bl)).mono ?_; rintro e w1 ⟨rfl, hb1⟩; have hF1 := hFd.step hb1; have fa4_0 := hF1.a 4 _ rfl; have fb4_0 := hF1.b 4 _ rfl; clear hb1))
           go_roundw
           case rel => exact ⟨k + 1, by go_num, by omega, HE, (bl_tr hB hF2.bl)⟩
           case measure => simp [intOf]; omega)
         | false =>
          rw [h4, Bool.false_and] at HE
          simp only [h4] at r4
          clear h4
          go_wp2
          go_region
          all_goals (
           go_wp2_with (first | (go_at_call 26; refine (r4 _ hF1.bl).mono ?_; rintro e w2 ⟨rfl, hb2⟩; have hF2 := hF1.step hb2; clear hb2) | (go_at_call 25; refine (r2 _ (TX2a.out _ hEd.bl) (TX2b.out _ hEd.bl)).mono ?_; rintro e w1 ⟨rfl, hb1⟩; have hF1 := hEd.step hb1; have fa4_0 := hF1.a 4 _ rfl; have fb4_0 := hF1.b 4 _ rfl; clear hb1) | (go_at_call 25; refine (r2 _ (TX2a.out _ hFd.bl) (TX2b.out _ hFd.bl)).mono ?_; rintro e w1 ⟨rfl, hb1⟩; have hF1 := hFd.step hb1; have fa4_0 := hF1.a 4 _ rfl; have fb4_0 := hF1.b 4 _ rfl; clear hb1))
           go_ret
           exact ⟨ret_bool (HE.out.symm), (bl_tr hB hF2.bl)⟩)
        | false =>
         rw [h3, Bool.false_and, Bool.false_and] at HE
         simp only [h3] at r2
         clear h3
         go_wp2
         go_region
         all_goals (
          go_wp2_with (first | (go_at_call 25; refine (r2 _ (TX2a.out _ hEd.bl) (TX2b.out _ hEd.bl)).mono ?_; rintro e w1 ⟨rfl, hb1⟩; have hF1 := hEd.step hb1; clear hb1) | (go_at_call 25; refine (r2 _ (TX2a.out _ hFd.bl) (TX2b.out _ hFd.bl)).mono ?_; rintro e w1 ⟨rfl, hb1⟩; have hF1 := hFd.step hb1; clear hb1))
          go_ret
          exact ⟨ret_bool (HE.out.symm), (bl_tr hB hF1.bl)⟩)
       ·
        rw [decide_eq_false h2, Bool.false_and, Bool.false_and] at HE
        have gq2 : (i3a == i3b) = false := by rw [beq_eq_false_iff_ne]; exact h2
        have gn2 : (i3a != i3b) = true := by rw [bne_iff_ne]; exact h2
        go_wp2
        go_region
        all_goals (
         go_wp2
         go_ret
         exact ⟨ret_bool (HE.out.symm), (bl_tr hB (by first | exact hFd.bl | exact hEd.bl))⟩)
      ·
       rw [decide_eq_false h1, Bool.false_and, Bool.false_and] at HE
       have gq1 : (s1a.toList == s1b.toList) = false := by rw [Nm.str_eq, decide_eq_false h1]
       clear h1
       go_wp2
       go_region
       all_goals (
        go_wp2
        go_ret
        exact ⟨ret_bool (HE.out.symm), (bl_tr hB (by first | exact hFd.bl | exact hEd.bl))⟩)
     ·
      rw [decide_eq_false h0, Bool.false_and, Bool.false_and] at HE
      have gq0 : (i0a == i0b) = false := by rw [beq_eq_false_iff_ne]; exact h0
      have gn0 : (i0a != i0b) = true := by rw [bne_iff_ne]; exact h0
      go_wp2
      go_region
      all_goals (
       go_wp2
       go_ret
       exact ⟨ret_bool (HE.out.symm), (bl_tr hB (by first | exact hFd.bl | exact hEd.bl))⟩)
    ·
     have HX : Hid (Nd.eqL xs ys = true) := by
      show _ = _
      rw [hH.out, List.drop_eq_nil_of_le (by omega), List.drop_eq_nil_of_le (by have := HL.out; omega)]; exact Nd.eqL_nil
     clear hH k1 k2 q1
     go_wp2
     go_ret
     exact ⟨ret_bool HX.out.symm, hB⟩
 ·
  have H : Hid (Nd.eqL xs ys = false) := Nd.eqL_len hl
  subst e1; subst e2
  have hl2 : ((xs.length : Int) == (ys.length : Int)) = false := by rw [beq_eq_false_iff_ne]; omega
  clear h1 h2 hl q1
  go_enter Tryz.func26, Tryz.ntmps26
  go_wp2
  go_ret
  exact ⟨ret_bool H.out.symm, Below.refl _ _⟩

end Go.Proofs.YtjebepnphoeiaabGreatDoor
