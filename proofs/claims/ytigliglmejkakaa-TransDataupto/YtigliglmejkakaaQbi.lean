/- The law's own: stamp, list, same. The law's list. The gatherer's methods on alive's structure; gathered. -/
import Derived.Test.YtigliglmejkakaaQaz
import Derived.Test.YtigliglmejkakaaQbh
import Derived.Test.YtigliglmejkakaaQbd
namespace Go.Proofs.Ytigliglmejkakaa
open Go.RowKit
set_option linter.unusedVariables false
set_option linter.unusedSimpArgs false

theorem eqLs_refl : ∀ l : List ByteArray, Tgt.Tt.eqLs l l = true
  | [] => by simp [Tgt.Tt.eqLs]
  | x :: r => by simp [Tgt.Tt.eqLs, Tgt.Tt.eqS, eqLs_refl r]
theorem one_refl (e : List (Int × Int)) (x : Int) : Tgt.Tt.one e e x x = true := by
  unfold Tgt.Tt.one
  cases Tgt.lk e x with
  | none => simp
  | some a => simp
mutual
theorem tsame_refl : ∀ (t : Tgt.Tt) (e : List (Int × Int)), Tgt.Tt.same t t e e = true
  | .mk k n ls ks, e => by
    rw [Tgt.Tt.same_mk]
    unfold Tgt.Tt.alike Tgt.Tt.num
    simp only [Tgt.Tt.ls, eqLs_refl, beq_self_eq_true, Bool.true_and, one_refl]
    have := tsameL_refl ks ((Tgt.Tt.mk k n ls ks).env e)
    simp only [Tgt.Tt.ks]
    rw [this]
    split
    · rfl
    · split <;> rfl
theorem tsameL_refl : ∀ (l : List Tgt.Tt) (e : List (Int × Int)), Tgt.Tt.sameL l l e e = true
  | [], e => by rw [Tgt.Tt.sameL]
  | x :: r, e => by
    rw [Tgt.Tt.sameL]
    show (Tgt.Tt.same x x e e && Tgt.Tt.sameL r r e e) = true
    rw [tsame_refl x e, tsameL_refl r e]
    rfl
end

set_option maxRecDepth 100000 in
theorem stamp14 (w : World) (n : Int) : Calls Try.prog 35 #[.int .i64 n] w fun e w' => e = .returned (.agg #[.int .i64 6, .int .i64 n, .slice none 0 0]) ∧ Below w.heap.size w w' := by
  go_enter Try.func35, Try.ntmps35
  go_wp2
  refine bodyPost_ret (v := .agg #[.int .i64 6, .int .i64 n, .slice none 0 0]) (by rw [results_cell1 (fn := Try.f35) (p := 2) (ty := 24) (by kernel_rfl)]; simp [go_sem]) rfl ?_
  exact ⟨rfl, bl_alloc (Below.refl _ _) _⟩

set_option maxHeartbeats 1000000 in
set_option maxRecDepth 100000 in
theorem same14 (w : World) (n m : Nat) (us us' : List Value) (y : Tgt.Tt) (x : Int) (h : Tgt.TAt w Tgt.Any n us y) (h' : Tgt.TAt w Tgt.Any m us' y) (hc : y.cnt ≤ 1099511627776) : Calls Try.prog 9 #[.agg us.toArray, .int .i64 x, .agg us'.toArray, .int .i64 x] w fun e w' => e = .returned (.bool true) ∧ Below w.heap.size w w' := by
  have HQ : Hid (∀ wz, Below w.heap.size w wz → Calls Try.prog 32 #[.agg us.toArray, .agg us'.toArray] wz fun e w' => e = .returned (.bool true) ∧ Below wz.heap.size wz w') := fun wz hz => by
    have := Tgt.RSameType_any wz n m us us' y y (h.below hz) (h'.below hz) hc
    rw [tsame_refl] at this
    exact this
  have HBB : Hid (∀ o o', Below w.heap.size w ((w.alloc o).alloc o')) := fun o o' => bl_alloc (bl_alloc (Below.refl _ _) _) _
  obtain ⟨a1, c1, a2, c2, rfl⟩ := h.form
  obtain ⟨b1, d1, b2, d2, rfl⟩ := h'.form
  have hxx : (x == x) = true := by simp
  clear h h'
  go_enter Try.func9, Try.ntmps9
  go_wp2_with (go_at_call 32; refine (HQ.out _ (HBB.out _ _)).mono ?_; rintro e w3 ⟨rfl, b3⟩; have HB3 := hid (bl_tr (HBB.out _ _) b3); clear b3)
  go_ret
  exact ⟨rfl, HB3.out⟩
end Go.Proofs.Ytigliglmejkakaa

namespace Go.Proofs.Ytigliglmejkakaa
open Go.RowKit
set_option linter.unusedVariables false
set_option linter.unusedSimpArgs false

def listT : Tp := .mk 5 0 [.mk 1 0 [], .mk 6 5 []]
def listC : List Ct := [⟨(ByteArray.mk #[78, 105, 108]), []⟩, ⟨(ByteArray.mk #[67, 111, 110, 115]), [listT]⟩]
theorem tat0 {w : World} {K : Nat → Prop} (k n : Int) (h1 : R64 k) (h2 : R64 n) : TAt w K 1 [.int .i64 k, .int .i64 n, .slice none 0 0] (.mk k n []) := ⟨_, rfl, h1, h2, .inr ⟨rfl, none, 0, rfl⟩⟩
theorem list_tat {W : World} {p q : Nat} (hA : Arr W p 24 [.int .i64 1, .int .i64 0, .slice none 0 0, .int .i64 6, .int .i64 5, .slice none 0 0]) : TAt W Any 2 [.int .i64 5, .int .i64 0, .slice (some ⟨p, 0, none⟩) 2 2] listT := by
  refine ⟨_, rfl, ⟨by show (-9223372036854775808 : Int) ≤ 5; omega, by show (5 : Int) ≤ 9223372036854775807; omega⟩, ⟨by show (-9223372036854775808 : Int) ≤ 0; omega, by show (0 : Int) ≤ 9223372036854775807; omega⟩, .inl ⟨p, 0, 2, rfl, trivial, Nat.le_refl _, by unfold maxLen; show (2 : Nat) ≤ _; omega, fun i x hx => ?_⟩⟩
  match i, hx with
  | 0, hx =>
    simp [listT, Tp.ks] at hx
    subst hx
    exact ⟨_, fun j u hu => by
      rw [hA.cell]
      match j, hu with
      | 0, hu => exact hu
      | 1, hu => exact hu
      | 2, hu => exact hu
      | j + 3, hu => simp at hu, tat0 1 0 ⟨by omega, by omega⟩ ⟨by omega, by omega⟩⟩
  | 1, hx =>
    simp [listT, Tp.ks] at hx
    subst hx
    exact ⟨_, fun j u hu => by
      rw [hA.cell]
      match j, hu with
      | 0, hu => exact hu
      | 1, hu => exact hu
      | 2, hu => exact hu
      | j + 3, hu => simp at hu, tat0 6 5 ⟨by omega, by omega⟩ ⟨by omega, by omega⟩⟩
  | i + 2, hx => simp [listT, Tp.ks] at hx
theorem list_ctl {W : World} {p q r : Nat} (hA : Arr W p 24 [.int .i64 1, .int .i64 0, .slice none 0 0, .int .i64 6, .int .i64 5, .slice none 0 0]) (hC : Arr W q 24 [.int .i64 5, .int .i64 0, .slice (some ⟨p, 0, none⟩) 2 2]) (hD : Arr W r 43 [.string (ByteArray.mk #[78, 105, 108]), .slice none 0 0, .string (ByteArray.mk #[67, 111, 110, 115]), .slice (some ⟨q, 0, none⟩) 1 1]) : CtL W Any 2 (.slice (some ⟨r, 0, none⟩) 2 2) listC := by
  refine .inl ⟨r, 0, 2, rfl, trivial, Nat.le_refl _, by unfold maxLen; show (2 : Nat) ≤ _; omega, fun i c hc => ?_⟩
  match i, hc with
  | 0, hc =>
    simp [listC] at hc
    subst hc
    exact ⟨[.string (ByteArray.mk #[78, 105, 108]), .slice none 0 0], fun j u hu => by
      rw [hD.cell]
      match j, hu with
      | 0, hu => exact hu
      | 1, hu => exact hu
      | j + 2, hu => simp at hu, ⟨_, rfl, .inr ⟨rfl, none, 0, rfl⟩⟩⟩
  | 1, hc =>
    simp [listC] at hc
    subst hc
    exact ⟨[.string (ByteArray.mk #[67, 111, 110, 115]), .slice (some ⟨q, 0, none⟩) 1 1], fun j u hu => by
      rw [hD.cell]
      match j, hu with
      | 0, hu => exact hu
      | 1, hu => exact hu
      | j + 2, hu => simp at hu, ⟨_, rfl, .inl ⟨q, 0, 1, rfl, trivial, Nat.le_refl _, by unfold maxLen; show (1 : Nat) ≤ _; omega, fun i x hx => by
        match i, hx with
        | 0, hx =>
          simp at hx
          subst hx
          exact ⟨_, fun j u hu => by rw [hC.cell]; simpa using hu, list_tat (q := q) hA⟩
        | i + 1, hx => simp at hx⟩⟩⟩
  | i + 2, hc => simp [listC] at hc

set_option maxHeartbeats 1000000 in
set_option maxRecDepth 100000 in
theorem list14 (w : World) : Calls Try.prog 33 #[] w fun e w' => ∃ r, e = .returned (.slice (some ⟨r, 0, none⟩) 2 2) ∧ CtL w' Any 2 (.slice (some ⟨r, 0, none⟩) 2 2) listC ∧ Below w.heap.size w w' := by
  have HQ : Hid (Calls Try.prog 35 #[.int .i64 5] w fun e w' => e = .returned (.agg #[.int .i64 6, .int .i64 5, .slice none 0 0]) ∧ Below w.heap.size w w') := stamp14 w 5
  go_enter Try.func33, Try.ntmps33
  go_wp2_with (go_at_call 35; refine HQ.out.mono ?_; rintro e w3 ⟨rfl, b3⟩; have HB3 := hid b3; clear b3)
  go_ret
  have hA : Arr ((((w3.alloc (.cells #[.int .i64 1, .int .i64 0, .slice none 0 0, .int .i64 6, .int .i64 5, .slice none 0 0] 24)).alloc (.cells #[.int .i64 5, .int .i64 0, .slice (some ⟨w3.heap.size, 0, none⟩) 2 2] 24)).alloc (.cells #[.int .i64 5, .int .i64 0, .slice (some ⟨w3.heap.size, 0, none⟩) 2 2] 24)).alloc (.cells #[.string (ByteArray.mk #[78, 105, 108]), .slice none 0 0, .string (ByteArray.mk #[67, 111, 110, 115]), .slice (some ⟨w3.heap.size + 2, 0, none⟩) 1 1] 43)) w3.heap.size 24 [.int .i64 1, .int .i64 0, .slice none 0 0, .int .i64 6, .int .i64 5, .slice none 0 0] := Arr.stays (w := w3.alloc (.cells #[.int .i64 1, .int .i64 0, .slice none 0 0, .int .i64 6, .int .i64 5, .slice none 0 0] 24)) ⟨heap_alloc_at _ _⟩ (bl_alloc (bl_alloc (bl_alloc (Below.refl _ _) _) _) _)
  have hC : Arr ((((w3.alloc (.cells #[.int .i64 1, .int .i64 0, .slice none 0 0, .int .i64 6, .int .i64 5, .slice none 0 0] 24)).alloc (.cells #[.int .i64 5, .int .i64 0, .slice (some ⟨w3.heap.size, 0, none⟩) 2 2] 24)).alloc (.cells #[.int .i64 5, .int .i64 0, .slice (some ⟨w3.heap.size, 0, none⟩) 2 2] 24)).alloc (.cells #[.string (ByteArray.mk #[78, 105, 108]), .slice none 0 0, .string (ByteArray.mk #[67, 111, 110, 115]), .slice (some ⟨w3.heap.size + 2, 0, none⟩) 1 1] 43)) (w3.heap.size + 2) 24 [.int .i64 5, .int .i64 0, .slice (some ⟨w3.heap.size, 0, none⟩) 2 2] := by
    have := heap_alloc_at ((w3.alloc (.cells #[.int .i64 1, .int .i64 0, .slice none 0 0, .int .i64 6, .int .i64 5, .slice none 0 0] 24)).alloc (.cells #[.int .i64 5, .int .i64 0, .slice (some ⟨w3.heap.size, 0, none⟩) 2 2] 24)) (.cells #[.int .i64 5, .int .i64 0, .slice (some ⟨w3.heap.size, 0, none⟩) 2 2] 24)
    rw [size_alloc, size_alloc] at this
    exact Arr.stays (w := ((w3.alloc (.cells #[.int .i64 1, .int .i64 0, .slice none 0 0, .int .i64 6, .int .i64 5, .slice none 0 0] 24)).alloc (.cells #[.int .i64 5, .int .i64 0, .slice (some ⟨w3.heap.size, 0, none⟩) 2 2] 24)).alloc (.cells #[.int .i64 5, .int .i64 0, .slice (some ⟨w3.heap.size, 0, none⟩) 2 2] 24)) ⟨this⟩ (bl_alloc (Below.refl _ _) _)
  have hD : Arr ((((w3.alloc (.cells #[.int .i64 1, .int .i64 0, .slice none 0 0, .int .i64 6, .int .i64 5, .slice none 0 0] 24)).alloc (.cells #[.int .i64 5, .int .i64 0, .slice (some ⟨w3.heap.size, 0, none⟩) 2 2] 24)).alloc (.cells #[.int .i64 5, .int .i64 0, .slice (some ⟨w3.heap.size, 0, none⟩) 2 2] 24)).alloc (.cells #[.string (ByteArray.mk #[78, 105, 108]), .slice none 0 0, .string (ByteArray.mk #[67, 111, 110, 115]), .slice (some ⟨w3.heap.size + 2, 0, none⟩) 1 1] 43)) (w3.heap.size + 3) 43 [.string (ByteArray.mk #[78, 105, 108]), .slice none 0 0, .string (ByteArray.mk #[67, 111, 110, 115]), .slice (some ⟨w3.heap.size + 2, 0, none⟩) 1 1] := by
    have := heap_alloc_at (((w3.alloc (.cells #[.int .i64 1, .int .i64 0, .slice none 0 0, .int .i64 6, .int .i64 5, .slice none 0 0] 24)).alloc (.cells #[.int .i64 5, .int .i64 0, .slice (some ⟨w3.heap.size, 0, none⟩) 2 2] 24)).alloc (.cells #[.int .i64 5, .int .i64 0, .slice (some ⟨w3.heap.size, 0, none⟩) 2 2] 24)) (.cells #[.string (ByteArray.mk #[78, 105, 108]), .slice none 0 0, .string (ByteArray.mk #[67, 111, 110, 115]), .slice (some ⟨w3.heap.size + 2, 0, none⟩) 1 1] 43)
    rw [size_alloc, size_alloc, size_alloc] at this
    exact ⟨this⟩
  exact ⟨w3.heap.size + 3, rfl, list_ctl hA hC hD, bl_alloc (bl_alloc (bl_alloc (bl_alloc HB3.out _) _) _) _⟩
end Go.Proofs.Ytigliglmejkakaa

namespace Go.Proofs.Ytigliglmejkakaa
open Go.RowKit
set_option linter.unusedVariables false
set_option linter.unusedSimpArgs false

set_option maxRecDepth 100000 in
theorem vals14 (w : World) (G P tb : Nat) (v : Value) (hg : Arr w G 105 [.pointer (some ⟨P, 0, none⟩), v]) (hP : Arr w P 66 [.slice (some ⟨tb, 0, none⟩) 1 1, .slice none 0 0, .slice none 0 0, .slice none 0 0, .slice none 0 0]) : Calls Try.prog 67 #[.pointer (some ⟨G, 0, none⟩)] w fun e w' => e = .returned (.tuple #[]) ∧ w' = w := by
  have g0 := hg.cell 0
  have p0 := hP.cell 1
  simp only [List.getElem?_cons_succ, List.getElem?_cons_zero] at g0 p0
  clear hg hP
  go_enter Try.func67, Try.ntmps67
  go_wp2
  refine wp_loop_rounds 1 ?_
  rw [rounds_succ]
  go_wp2
  first | refine bodyPost_end (results_none rfl _ _ _) rfl ?_ | refine bodyPost_ret (results_none rfl _ _ _) rfl ?_
  exact ⟨rfl, rfl⟩
set_option maxRecDepth 100000 in
theorem subs14 (w : World) (G P tb : Nat) (v : Value) (hg : Arr w G 105 [.pointer (some ⟨P, 0, none⟩), v]) (hP : Arr w P 66 [.slice (some ⟨tb, 0, none⟩) 1 1, .slice none 0 0, .slice none 0 0, .slice none 0 0, .slice none 0 0]) : Calls Try.prog 68 #[.pointer (some ⟨G, 0, none⟩)] w fun e w' => e = .returned (.tuple #[]) ∧ w' = w := by
  have g0 := hg.cell 0
  have p0 := hP.cell 2
  simp only [List.getElem?_cons_succ, List.getElem?_cons_zero] at g0 p0
  clear hg hP
  go_enter Try.func68, Try.ntmps68
  go_wp2
  refine wp_loop_rounds 1 ?_
  rw [rounds_succ]
  go_wp2
  first | refine bodyPost_end (results_none rfl _ _ _) rfl ?_ | refine bodyPost_ret (results_none rfl _ _ _) rfl ?_
  exact ⟨rfl, rfl⟩
set_option maxRecDepth 100000 in
theorem funs14 (w : World) (G P tb : Nat) (v : Value) (hg : Arr w G 105 [.pointer (some ⟨P, 0, none⟩), v]) (hP : Arr w P 66 [.slice (some ⟨tb, 0, none⟩) 1 1, .slice none 0 0, .slice none 0 0, .slice none 0 0, .slice none 0 0]) : Calls Try.prog 69 #[.pointer (some ⟨G, 0, none⟩)] w fun e w' => e = .returned (.tuple #[]) ∧ w' = w := by
  have g0 := hg.cell 0
  have p0 := hP.cell 3
  simp only [List.getElem?_cons_succ, List.getElem?_cons_zero] at g0 p0
  clear hg hP
  go_enter Try.func69, Try.ntmps69
  go_wp2
  refine wp_loop_rounds 1 ?_
  rw [rounds_succ]
  go_wp2
  first | refine bodyPost_end (results_none rfl _ _ _) rfl ?_ | refine bodyPost_ret (results_none rfl _ _ _) rfl ?_
  exact ⟨rfl, rfl⟩
theorem out14 (w : World) : Calls Try.prog 73 #[.string (ByteArray.mk #[116])] w fun e w' => e = .returned (.string ⟨bO.toArray⟩) ∧ w' = w := by
  go_enter Try.func73, Try.ntmps73
  go_wp2
  go_ret
  exact ⟨rfl, rfl⟩
theorem conN14 (w : World) : Calls Try.prog 76 #[.string (ByteArray.mk #[78, 105, 108])] w fun e w' => e = .returned (.string ⟨bN.toArray⟩) ∧ w' = w := by
  go_enter Try.func76, Try.ntmps76
  go_wp2
  go_ret
  exact ⟨rfl, rfl⟩
theorem conC14 (w : World) : Calls Try.prog 76 #[.string (ByteArray.mk #[67, 111, 110, 115])] w fun e w' => e = .returned (.string ⟨bC.toArray⟩) ∧ w' = w := by
  go_enter Try.func76, Try.ntmps76
  go_wp2
  go_ret
  exact ⟨rfl, rfl⟩
/-- What stands still below the gatherer. -/
structure Str14 (P tb r : Nat) (a0 a1 : Option Addr) (p0 p1 : Nat) (w : World) : Prop where
  p : Arr w P 66 [.slice (some ⟨tb, 0, none⟩) 1 1, .slice none 0 0, .slice none 0 0, .slice none 0 0, .slice none 0 0]
  m : Arr w tb 59 [.string (ByteArray.mk #[116]), .int .i64 6, .int .i64 5, .slice none 0 0, .slice (some ⟨r, 0, none⟩) 2 2]
  c0 : w.cell? ⟨r, 0, none⟩ = some (.string (ByteArray.mk #[78, 105, 108]))
  c1 : w.cell? ⟨r, 1, none⟩ = some (.slice a0 0 p0)
  c2 : w.cell? ⟨r, 2, none⟩ = some (.string (ByteArray.mk #[67, 111, 110, 115]))
  c3 : w.cell? ⟨r, 3, none⟩ = some (.slice a1 1 p1)
theorem Str14.on {P tb r : Nat} {a0 a1 : Option Addr} {p0 p1 G : Nat} {w w' : World} (h : Str14 P tb r a0 a1 p0 p1 w) (hb : Below G w w') (h1 : P < G) (h2 : tb < G) (h3 : r < G) : Str14 P tb r a0 a1 p0 p1 w' :=
  ⟨⟨(hb.block P h1).trans h.p.b⟩, ⟨(hb.block tb h2).trans h.m.b⟩, (hb.cell (p := ⟨r, 0, none⟩) h3).trans h.c0, (hb.cell (p := ⟨r, 1, none⟩) h3).trans h.c1, (hb.cell (p := ⟨r, 2, none⟩) h3).trans h.c2, (hb.cell (p := ⟨r, 3, none⟩) h3).trans h.c3⟩
theorem bl_low {G : Nat} {w w' : World} (h : Below w.heap.size w w') (hG : G ≤ w.heap.size) : Below G w w' := h.mono hG

set_option maxHeartbeats 2000000 in
set_option maxRecDepth 100000 in
theorem types14 (w : World) (G base P tb r : Nat) (a0 a1 : Option Addr) (p0 p1 : Nat) (hG : Gt G base P 0 (.slice none 0 0) [] w) (hS : Str14 P tb r a0 a1 p0 p1 w) (h1 : P < G) (h2 : tb < G) (h3 : r < G) :
    Calls Try.prog 66 #[.pointer (some ⟨G, 0, none⟩)] w fun e w' => e = .returned (.tuple #[]) ∧ (∃ v m b0 b1, Gt G base P 3 v [.string ⟨bO.toArray⟩, .func (.func 74) #[] #[.pointer (some ⟨m, 0, none⟩)], .string ⟨bN.toArray⟩, .func (.func 77) #[] #[.pointer (some ⟨m, 0, none⟩), .pointer (some ⟨b0, 0, none⟩)], .string ⟨bC.toArray⟩, .func (.func 77) #[] #[.pointer (some ⟨m, 0, none⟩), .pointer (some ⟨b1, 0, none⟩)]] w' ∧ Arr w' m 110 [.pointer (some ⟨tb, 0, none⟩)] ∧ Arr w' b0 43 [.string (ByteArray.mk #[78, 105, 108]), .slice a0 0 p0] ∧ Arr w' b1 43 [.string (ByteArray.mk #[67, 111, 110, 115]), .slice a1 1 p1]) ∧ Below G w w' := by
  have HS := hid hS
  have HG := hid hG
  have g0 := hG.g.cell 0
  have q0 := hS.p.cell 0
  simp only [List.getElem?_cons_succ, List.getElem?_cons_zero] at g0 q0
  have hGw : G ≤ w.heap.size := Nat.le_of_lt hG.g.lt
  have hGl : G < w.heap.size := hG.g.lt
  have hW : w.heap.size ≠ G := by omega
  clear hG hS
  go_enter Try.func66, Try.ntmps66
  go_wp2
  refine wp_loop_rounds 2 ?_
  rw [rounds_succ]
  have B1 : Hid (Below w.heap.size w (w.alloc (.cells #[.pointer (some ⟨tb, 0, none⟩)] 110))) := bl_alloc (Below.refl _ _) _
  have HG1 := hid (HG.out.stays B1.out)
  have HS1 := hid (HS.out.on (bl_low B1.out hGw) h1 h2 h3)
  have M1 : Hid (Arr (w.alloc (.cells #[.pointer (some ⟨tb, 0, none⟩)] 110)) w.heap.size 110 [.pointer (some ⟨tb, 0, none⟩)]) := ⟨heap_alloc_at _ _⟩
  have t1 := HS1.out.m.cell
  have HBB1 := hid (bl_low B1.out hGw)
  clear HS HG B1
  have mark1 : Hid True := trivial
  have mark2 : Hid True := trivial
  go_wp2_with (first | (go_at_call 73; refine (out14 _).mono ?_; rintro e w' ⟨rfl, hw⟩; rw [hw]; clear hw w') | (go_at_call 72; have := mark1; refine (gadd_any _ G base P 0 _ _ _ _ _ _ HG1.out (by omega)).mono ?_; rintro e w2 ⟨rfl, ⟨v2, hg2⟩, ad2⟩; have HG2 := hid hg2; have HS2 := hid (HS1.out.on ad2.bl h1 h2 h3); have M2 := hid (ad2.arr _ _ _ hW (by decide) M1.out); have HBB2 := hid (HBB1.out.trans ad2.bl); have HZ2 : Hid (w.heap.size ≤ w2.heap.size) := (by have h9 := ad2.size; rw [size_alloc] at h9; show _ ≤ _; omega); have m2 := M2.out.cell; have t2 := HS2.out.m.cell; clear hg2 ad2 t1 mark1))
  refine wp_loop_rounds 3 ?_
  rw [rounds_succ]
  have n0 := HS2.out.c0
  have n1 := HS2.out.c1
  have n2 := HS2.out.c2
  have n3 := HS2.out.c3
  have hG2 : G ≤ w2.heap.size := by have := HZ2.out; omega
  have hW2 : w2.heap.size ≠ G := by have := HZ2.out; omega
  have D2 : Hid (Below w2.heap.size w2 (w2.alloc (.cells #[.string (ByteArray.mk #[78, 105, 108]), .slice a0 0 p0] 43))) := bl_alloc (Below.refl _ _) _
  have HG2b := hid (HG2.out.stays D2.out)
  have HS2b := hid (HS2.out.on (bl_low D2.out hG2) h1 h2 h3)
  have M2b := hid (M2.out.stays D2.out)
  have C2 : Hid (Arr (w2.alloc (.cells #[.string (ByteArray.mk #[78, 105, 108]), .slice a0 0 p0] 43)) w2.heap.size 43 [.string (ByteArray.mk #[78, 105, 108]), .slice a0 0 p0]) := ⟨heap_alloc_at _ _⟩
  have HBB2b := hid (HBB2.out.trans (bl_low D2.out hG2))
  have HZ2b : Hid (w.heap.size ≤ (w2.alloc (.cells #[.string (ByteArray.mk #[78, 105, 108]), .slice a0 0 p0] 43)).heap.size) := by have := HZ2.out; show _ ≤ _; rw [size_alloc]; omega
  clear HG2 HS2 M2 D2 HBB2 HZ2 m2 t2
  go_wp2_with (first | (go_at_call 76; refine (conN14 _).mono ?_; rintro e w' ⟨rfl, hw⟩; rw [hw]; clear hw w') | (go_at_call 72; refine (gadd_any _ G base P 1 _ _ _ _ _ _ HG2b.out (by omega)).mono ?_; rintro e w4 ⟨rfl, ⟨v4, hg4⟩, ad4⟩; have HG4 := hid hg4; have HS4 := hid (HS2b.out.on ad4.bl h1 h2 h3); have M4 := hid (ad4.arr _ _ _ hW (by decide) M2b.out); have C24 := hid (ad4.arr _ _ _ hW2 (by decide) C2.out); have HBB4 := hid (HBB2b.out.trans ad4.bl); have HZ4 : Hid (w.heap.size ≤ w4.heap.size) := Nat.le_trans HZ2b.out ad4.size; have m4 := M4.out.cell; have t4 := HS4.out.m.cell; clear hg4 ad4))
  clear n0 n1 n2 n3
  rw [rounds_succ]
  have n0 := HS4.out.c0
  have n1 := HS4.out.c1
  have n2 := HS4.out.c2
  have n3 := HS4.out.c3
  have hG4 : G ≤ w4.heap.size := by have := HZ4.out; omega
  have hW4 : w4.heap.size ≠ G := by have := HZ4.out; omega
  have D4 : Hid (Below w4.heap.size w4 (w4.alloc (.cells #[.string (ByteArray.mk #[67, 111, 110, 115]), .slice a1 1 p1] 43))) := bl_alloc (Below.refl _ _) _
  have HG4b := hid (HG4.out.stays D4.out)
  have HS4b := hid (HS4.out.on (bl_low D4.out hG4) h1 h2 h3)
  have M4b := hid (M4.out.stays D4.out)
  have C4 : Hid (Arr (w4.alloc (.cells #[.string (ByteArray.mk #[67, 111, 110, 115]), .slice a1 1 p1] 43)) w4.heap.size 43 [.string (ByteArray.mk #[67, 111, 110, 115]), .slice a1 1 p1]) := ⟨heap_alloc_at _ _⟩
  have HBB4b := hid (HBB4.out.trans (bl_low D4.out hG4))
  have HZ4b : Hid (w.heap.size ≤ (w4.alloc (.cells #[.string (ByteArray.mk #[67, 111, 110, 115]), .slice a1 1 p1] 43)).heap.size) := by have := HZ4.out; show _ ≤ _; rw [size_alloc]; omega
  have C24b := hid (C24.out.stays D4.out)
  clear HG4 HS4 M4 D4 HBB4 HZ4 m4 t4
  go_wp2_with (first | (go_at_call 76; refine (conC14 _).mono ?_; rintro e w' ⟨rfl, hw⟩; rw [hw]; clear hw w') | (go_at_call 72; refine (gadd_any _ G base P 2 _ _ _ _ _ _ HG4b.out (by omega)).mono ?_; rintro e w6 ⟨rfl, ⟨v6, hg6⟩, ad6⟩; have HG6 := hid hg6; have HS6 := hid (HS4b.out.on ad6.bl h1 h2 h3); have M6 := hid (ad6.arr _ _ _ hW (by decide) M4b.out); have C46 := hid (ad6.arr _ _ _ hW4 (by decide) C4.out); have C26 := hid (ad6.arr _ _ _ hW2 (by decide) C24b.out); have HBB6 := hid (HBB4b.out.trans ad6.bl); have HZ6 : Hid (w.heap.size ≤ w6.heap.size) := Nat.le_trans HZ4b.out ad6.size; have m6 := M6.out.cell; have t6 := HS6.out.m.cell; clear hg6 ad6))
  clear n0 n1 n2 n3
  rw [rounds_succ]
  go_wp2
  rw [rounds_succ]
  go_wp2
  first | refine bodyPost_end (results_none rfl _ _ _) rfl ?_ | refine bodyPost_ret (results_none rfl _ _ _) rfl ?_
  exact ⟨rfl, ⟨_, _, _, _, HG6.out, M6.out, C26.out, C46.out⟩, HBB6.out⟩
end Go.Proofs.Ytigliglmejkakaa
