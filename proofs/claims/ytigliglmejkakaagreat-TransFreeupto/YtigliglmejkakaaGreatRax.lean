/- The gatherer's methods on alive's structure; gathered. gathered of alive's structure. -/
import Derived.Test.YtigliglmejkakaaGreatRap
import Derived.Test.YtigliglmejkakaaGreatRaw
namespace Go.Proofs.YtigliglmejkakaaGreat
open Go.RowKit
set_option linter.unusedVariables false
set_option linter.unusedSimpArgs false

set_option maxRecDepth 100000 in
theorem vals14 (w : World) (G P tb : Nat) (v : Value) (hg : Arr w G 196 [.pointer (some ⟨P, 0, none⟩), v]) (hP : Arr w P 49 [.slice (some ⟨tb, 0, none⟩) 1 1, .slice none 0 0, .slice none 0 0, .slice none 0 0, .slice none 0 0]) : Calls Tryz.prog 106 #[.pointer (some ⟨G, 0, none⟩)] w fun e w' => e = .returned (.tuple #[]) ∧ w' = w := by
  have g0 := hg.cell 0
  have p0 := hP.cell 1
  simp only [List.getElem?_cons_succ, List.getElem?_cons_zero] at g0 p0
  clear hg hP
  go_enter Tryz.func106, Tryz.ntmps106
  go_wp2
  refine wp_loop_rounds 1 ?_
  rw [rounds_succ]
  go_wp2
  first | refine bodyPost_end (results_none rfl _ _ _) rfl ?_ | refine bodyPost_ret (results_none rfl _ _ _) rfl ?_
  exact ⟨rfl, rfl⟩
set_option maxRecDepth 100000 in
theorem subs14 (w : World) (G P tb : Nat) (v : Value) (hg : Arr w G 196 [.pointer (some ⟨P, 0, none⟩), v]) (hP : Arr w P 49 [.slice (some ⟨tb, 0, none⟩) 1 1, .slice none 0 0, .slice none 0 0, .slice none 0 0, .slice none 0 0]) : Calls Tryz.prog 107 #[.pointer (some ⟨G, 0, none⟩)] w fun e w' => e = .returned (.tuple #[]) ∧ w' = w := by
  have g0 := hg.cell 0
  have p0 := hP.cell 2
  simp only [List.getElem?_cons_succ, List.getElem?_cons_zero] at g0 p0
  clear hg hP
  go_enter Tryz.func107, Tryz.ntmps107
  go_wp2
  refine wp_loop_rounds 1 ?_
  rw [rounds_succ]
  go_wp2
  first | refine bodyPost_end (results_none rfl _ _ _) rfl ?_ | refine bodyPost_ret (results_none rfl _ _ _) rfl ?_
  exact ⟨rfl, rfl⟩
set_option maxRecDepth 100000 in
theorem funs14 (w : World) (G P tb : Nat) (v : Value) (hg : Arr w G 196 [.pointer (some ⟨P, 0, none⟩), v]) (hP : Arr w P 49 [.slice (some ⟨tb, 0, none⟩) 1 1, .slice none 0 0, .slice none 0 0, .slice none 0 0, .slice none 0 0]) : Calls Tryz.prog 108 #[.pointer (some ⟨G, 0, none⟩)] w fun e w' => e = .returned (.tuple #[]) ∧ w' = w := by
  have g0 := hg.cell 0
  have p0 := hP.cell 3
  simp only [List.getElem?_cons_succ, List.getElem?_cons_zero] at g0 p0
  clear hg hP
  go_enter Tryz.func108, Tryz.ntmps108
  go_wp2
  refine wp_loop_rounds 1 ?_
  rw [rounds_succ]
  go_wp2
  first | refine bodyPost_end (results_none rfl _ _ _) rfl ?_ | refine bodyPost_ret (results_none rfl _ _ _) rfl ?_
  exact ⟨rfl, rfl⟩
theorem out14 (w : World) : Calls Tryz.prog 126 #[.string (ByteArray.mk #[116])] w fun e w' => e = .returned (.string ⟨bO.toArray⟩) ∧ w' = w := by
  go_enter Tryz.func126, Tryz.ntmps126
  go_wp2
  go_ret
  exact ⟨rfl, rfl⟩
theorem conN14 (w : World) : Calls Tryz.prog 129 #[.string (ByteArray.mk #[78, 105, 108])] w fun e w' => e = .returned (.string ⟨bN.toArray⟩) ∧ w' = w := by
  go_enter Tryz.func129, Tryz.ntmps129
  go_wp2
  go_ret
  exact ⟨rfl, rfl⟩
theorem conC14 (w : World) : Calls Tryz.prog 129 #[.string (ByteArray.mk #[67, 111, 110, 115])] w fun e w' => e = .returned (.string ⟨bC.toArray⟩) ∧ w' = w := by
  go_enter Tryz.func129, Tryz.ntmps129
  go_wp2
  go_ret
  exact ⟨rfl, rfl⟩
/-- What stands still below the gatherer. -/
structure Str14 (P tb r : Nat) (a0 a1 : Option Addr) (p0 p1 : Nat) (w : World) : Prop where
  p : Arr w P 49 [.slice (some ⟨tb, 0, none⟩) 1 1, .slice none 0 0, .slice none 0 0, .slice none 0 0, .slice none 0 0]
  m : Arr w tb 67 [.string (ByteArray.mk #[116]), .int .i64 6, .int .i64 5, .slice none 0 0, .slice (some ⟨r, 0, none⟩) 2 2]
  c0 : w.cell? ⟨r, 0, none⟩ = some (.string (ByteArray.mk #[78, 105, 108]))
  c1 : w.cell? ⟨r, 1, none⟩ = some (.slice a0 0 p0)
  c2 : w.cell? ⟨r, 2, none⟩ = some (.string (ByteArray.mk #[67, 111, 110, 115]))
  c3 : w.cell? ⟨r, 3, none⟩ = some (.slice a1 1 p1)
theorem Str14.on {P tb r : Nat} {a0 a1 : Option Addr} {p0 p1 G : Nat} {w w' : World} (h : Str14 P tb r a0 a1 p0 p1 w) (hb : Below G w w') (h1 : P < G) (h2 : tb < G) (h3 : r < G) : Str14 P tb r a0 a1 p0 p1 w' :=
  ⟨⟨(hb.block P h1).trans h.p.b⟩, ⟨(hb.block tb h2).trans h.m.b⟩, (hb.cell (p := ⟨r, 0, none⟩) h3).trans h.c0, (hb.cell (p := ⟨r, 1, none⟩) h3).trans h.c1, (hb.cell (p := ⟨r, 2, none⟩) h3).trans h.c2, (hb.cell (p := ⟨r, 3, none⟩) h3).trans h.c3⟩
theorem bl_low {G : Nat} {w w' : World} (h : Below w.heap.size w w') (hG : G ≤ w.heap.size) : Below G w w' := h.mono hG

set_option maxHeartbeats 2000000 in
set_option maxRecDepth 100000 in
theorem types14 (w : World) (G base P tb r : Nat) (a0 a1 : Option Addr) (p0 p1 : Nat) (hG : Gt G base P 0 (.slice none 0 0) [] w) (hS : Str14 P tb r a0 a1 p0 p1 w) (h1 : P < G) (h2 : tb < G) (h3 : r < G) :
    Calls Tryz.prog 105 #[.pointer (some ⟨G, 0, none⟩)] w fun e w' => e = .returned (.tuple #[]) ∧ (∃ v m b0 b1, Gt G base P 3 v [.string ⟨bO.toArray⟩, .func (.func 127) #[] #[.pointer (some ⟨m, 0, none⟩)], .string ⟨bN.toArray⟩, .func (.func 130) #[] #[.pointer (some ⟨m, 0, none⟩), .pointer (some ⟨b0, 0, none⟩)], .string ⟨bC.toArray⟩, .func (.func 130) #[] #[.pointer (some ⟨m, 0, none⟩), .pointer (some ⟨b1, 0, none⟩)]] w' ∧ Arr w' m 216 [.pointer (some ⟨tb, 0, none⟩)] ∧ Arr w' b0 125 [.string (ByteArray.mk #[78, 105, 108]), .slice a0 0 p0] ∧ Arr w' b1 125 [.string (ByteArray.mk #[67, 111, 110, 115]), .slice a1 1 p1]) ∧ Below G w w' := by
  have HS := hid hS
  have HG := hid hG
  have g0 := hG.g.cell 0
  have q0 := hS.p.cell 0
  simp only [List.getElem?_cons_succ, List.getElem?_cons_zero] at g0 q0
  have hGw : G ≤ w.heap.size := Nat.le_of_lt hG.g.lt
  have hGl : G < w.heap.size := hG.g.lt
  have hW : w.heap.size ≠ G := by omega
  clear hG hS
  go_enter Tryz.func105, Tryz.ntmps105
  go_wp2
  refine wp_loop_rounds 2 ?_
  rw [rounds_succ]
  have B1 : Hid (Below w.heap.size w (w.alloc (.cells #[.pointer (some ⟨tb, 0, none⟩)] 216))) := bl_alloc (Below.refl _ _) _
  have HG1 := hid (HG.out.stays B1.out)
  have HS1 := hid (HS.out.on (bl_low B1.out hGw) h1 h2 h3)
  have M1 : Hid (Arr (w.alloc (.cells #[.pointer (some ⟨tb, 0, none⟩)] 216)) w.heap.size 216 [.pointer (some ⟨tb, 0, none⟩)]) := ⟨heap_alloc_at _ _⟩
  have t1 := HS1.out.m.cell
  have HBB1 := hid (bl_low B1.out hGw)
  clear HS HG B1
  have mark1 : Hid True := trivial
  have mark2 : Hid True := trivial
  go_wp2_with (first | (go_at_call 126; refine (out14 _).mono ?_; rintro e w' ⟨rfl, hw⟩; rw [hw]; clear hw w') | (go_at_call 125; have := mark1; refine (gadd_any _ G base P 0 _ _ _ _ _ _ HG1.out (by omega)).mono ?_; rintro e w2 ⟨rfl, ⟨v2, hg2⟩, ad2⟩; have HG2 := hid hg2; have HS2 := hid (HS1.out.on ad2.bl h1 h2 h3); have M2 := hid (ad2.arr _ _ _ hW (by decide) M1.out); have HBB2 := hid (HBB1.out.trans ad2.bl); have HZ2 : Hid (w.heap.size ≤ w2.heap.size) := (by have h9 := ad2.size; rw [size_alloc] at h9; show _ ≤ _; omega); have m2 := M2.out.cell; have t2 := HS2.out.m.cell; clear hg2 ad2 t1 mark1))
  refine wp_loop_rounds 3 ?_
  rw [rounds_succ]
  have n0 := HS2.out.c0
  have n1 := HS2.out.c1
  have n2 := HS2.out.c2
  have n3 := HS2.out.c3
  have hG2 : G ≤ w2.heap.size := by have := HZ2.out; omega
  have hW2 : w2.heap.size ≠ G := by have := HZ2.out; omega
  have D2 : Hid (Below w2.heap.size w2 (w2.alloc (.cells #[.string (ByteArray.mk #[78, 105, 108]), .slice a0 0 p0] 125))) := bl_alloc (Below.refl _ _) _
  have HG2b := hid (HG2.out.stays D2.out)
  have HS2b := hid (HS2.out.on (bl_low D2.out hG2) h1 h2 h3)
  have M2b := hid (M2.out.stays D2.out)
  have C2 : Hid (Arr (w2.alloc (.cells #[.string (ByteArray.mk #[78, 105, 108]), .slice a0 0 p0] 125)) w2.heap.size 125 [.string (ByteArray.mk #[78, 105, 108]), .slice a0 0 p0]) := ⟨heap_alloc_at _ _⟩
  have HBB2b := hid (HBB2.out.trans (bl_low D2.out hG2))
  have HZ2b : Hid (w.heap.size ≤ (w2.alloc (.cells #[.string (ByteArray.mk #[78, 105, 108]), .slice a0 0 p0] 125)).heap.size) := by have := HZ2.out; show _ ≤ _; rw [size_alloc]; omega
  clear HG2 HS2 M2 D2 HBB2 HZ2 m2 t2
  go_wp2_with (first | (go_at_call 129; refine (conN14 _).mono ?_; rintro e w' ⟨rfl, hw⟩; rw [hw]; clear hw w') | (go_at_call 125; refine (gadd_any _ G base P 1 _ _ _ _ _ _ HG2b.out (by omega)).mono ?_; rintro e w4 ⟨rfl, ⟨v4, hg4⟩, ad4⟩; have HG4 := hid hg4; have HS4 := hid (HS2b.out.on ad4.bl h1 h2 h3); have M4 := hid (ad4.arr _ _ _ hW (by decide) M2b.out); have C24 := hid (ad4.arr _ _ _ hW2 (by decide) C2.out); have HBB4 := hid (HBB2b.out.trans ad4.bl); have HZ4 : Hid (w.heap.size ≤ w4.heap.size) := Nat.le_trans HZ2b.out ad4.size; have m4 := M4.out.cell; have t4 := HS4.out.m.cell; clear hg4 ad4))
  clear n0 n1 n2 n3
  rw [rounds_succ]
  have n0 := HS4.out.c0
  have n1 := HS4.out.c1
  have n2 := HS4.out.c2
  have n3 := HS4.out.c3
  have hG4 : G ≤ w4.heap.size := by have := HZ4.out; omega
  have hW4 : w4.heap.size ≠ G := by have := HZ4.out; omega
  have D4 : Hid (Below w4.heap.size w4 (w4.alloc (.cells #[.string (ByteArray.mk #[67, 111, 110, 115]), .slice a1 1 p1] 125))) := bl_alloc (Below.refl _ _) _
  have HG4b := hid (HG4.out.stays D4.out)
  have HS4b := hid (HS4.out.on (bl_low D4.out hG4) h1 h2 h3)
  have M4b := hid (M4.out.stays D4.out)
  have C4 : Hid (Arr (w4.alloc (.cells #[.string (ByteArray.mk #[67, 111, 110, 115]), .slice a1 1 p1] 125)) w4.heap.size 125 [.string (ByteArray.mk #[67, 111, 110, 115]), .slice a1 1 p1]) := ⟨heap_alloc_at _ _⟩
  have HBB4b := hid (HBB4.out.trans (bl_low D4.out hG4))
  have HZ4b : Hid (w.heap.size ≤ (w4.alloc (.cells #[.string (ByteArray.mk #[67, 111, 110, 115]), .slice a1 1 p1] 125)).heap.size) := by have := HZ4.out; show _ ≤ _; rw [size_alloc]; omega
  have C24b := hid (C24.out.stays D4.out)
  clear HG4 HS4 M4 D4 HBB4 HZ4 m4 t4
  go_wp2_with (first | (go_at_call 129; refine (conC14 _).mono ?_; rintro e w' ⟨rfl, hw⟩; rw [hw]; clear hw w') | (go_at_call 125; refine (gadd_any _ G base P 2 _ _ _ _ _ _ HG4b.out (by omega)).mono ?_; rintro e w6 ⟨rfl, ⟨v6, hg6⟩, ad6⟩; have HG6 := hid hg6; have HS6 := hid (HS4b.out.on ad6.bl h1 h2 h3); have M6 := hid (ad6.arr _ _ _ hW (by decide) M4b.out); have C46 := hid (ad6.arr _ _ _ hW4 (by decide) C4.out); have C26 := hid (ad6.arr _ _ _ hW2 (by decide) C24b.out); have HBB6 := hid (HBB4b.out.trans ad6.bl); have HZ6 : Hid (w.heap.size ≤ w6.heap.size) := Nat.le_trans HZ4b.out ad6.size; have m6 := M6.out.cell; have t6 := HS6.out.m.cell; clear hg6 ad6))
  clear n0 n1 n2 n3
  rw [rounds_succ]
  go_wp2
  rw [rounds_succ]
  go_wp2
  first | refine bodyPost_end (results_none rfl _ _ _) rfl ?_ | refine bodyPost_ret (results_none rfl _ _ _) rfl ?_
  exact ⟨rfl, ⟨_, _, _, _, HG6.out, M6.out, C26.out, C46.out⟩, HBB6.out⟩
end Go.Proofs.YtigliglmejkakaaGreat

namespace Go.Proofs.YtigliglmejkakaaGreat
open Go.RowKit
set_option linter.unusedVariables false
set_option linter.unusedSimpArgs false

set_option maxHeartbeats 2000000 in
set_option maxRecDepth 100000 in
theorem gathered14 (w : World) (P tb r : Nat) (a0 a1 : Option Addr) (p0 p1 : Nat) (hS : Str14 P tb r a0 a1 p0 p1 w) :
    Calls Tryz.prog 83 #[.pointer (some ⟨P, 0, none⟩)] w fun e w' => (∃ v m b0 b1, e = .returned v ∧ Gt w.heap.size (w.heap.size + 1) P 3 v [.string ⟨bO.toArray⟩, .func (.func 127) #[] #[.pointer (some ⟨m, 0, none⟩)], .string ⟨bN.toArray⟩, .func (.func 130) #[] #[.pointer (some ⟨m, 0, none⟩), .pointer (some ⟨b0, 0, none⟩)], .string ⟨bC.toArray⟩, .func (.func 130) #[] #[.pointer (some ⟨m, 0, none⟩), .pointer (some ⟨b1, 0, none⟩)]] w' ∧ Arr w' m 216 [.pointer (some ⟨tb, 0, none⟩)] ∧ Arr w' b0 125 [.string (ByteArray.mk #[78, 105, 108]), .slice a0 0 p0] ∧ Arr w' b1 125 [.string (ByteArray.mk #[67, 111, 110, 115]), .slice a1 1 p1]) ∧ Below w.heap.size w w' := by
  have h1 : P < w.heap.size := hS.p.lt
  have h2 : tb < w.heap.size := hS.m.lt
  have h3 : r < w.heap.size := World.block_lt_of_cell? _ _ hS.c0
  have D : Below w.heap.size w (w.alloc (.cells #[.pointer (some ⟨P, 0, none⟩), .slice none 0 0] 196)) := bl_alloc (Below.refl _ _) _
  have HG : Hid (Gt w.heap.size (w.heap.size + 1) P 0 (.slice none 0 0) [] (w.alloc (.cells #[.pointer (some ⟨P, 0, none⟩), .slice none 0 0] 196))) := ⟨Nat.lt_succ_self _, by rw [size_alloc]; exact Nat.le_refl _, ⟨heap_alloc_at _ _⟩, World.ownsRow_nil _ _ _ _⟩
  have HS := hid (hS.on D h1 h2 h3)
  have HB := hid D
  have i0 : ∀ wz, (Instr.index 197 (.agg #[(.func (.func 105) #[.pointer (some ⟨w.heap.size, 0, none⟩)] #[]), (.func (.func 106) #[.pointer (some ⟨w.heap.size, 0, none⟩)] #[]), (.func (.func 107) #[.pointer (some ⟨w.heap.size, 0, none⟩)] #[]), (.func (.func 108) #[.pointer (some ⟨w.heap.size, 0, none⟩)] #[])]) (.int .i64 0)).run Tryz.prog wz = .ok (.func (.func 105) #[.pointer (some ⟨w.heap.size, 0, none⟩)] #[]) wz := fun _ => by kernel_rfl
  have i1 : ∀ wz, (Instr.index 197 (.agg #[(.func (.func 105) #[.pointer (some ⟨w.heap.size, 0, none⟩)] #[]), (.func (.func 106) #[.pointer (some ⟨w.heap.size, 0, none⟩)] #[]), (.func (.func 107) #[.pointer (some ⟨w.heap.size, 0, none⟩)] #[]), (.func (.func 108) #[.pointer (some ⟨w.heap.size, 0, none⟩)] #[])]) (.int .i64 1)).run Tryz.prog wz = .ok (.func (.func 106) #[.pointer (some ⟨w.heap.size, 0, none⟩)] #[]) wz := fun _ => by kernel_rfl
  have i2 : ∀ wz, (Instr.index 197 (.agg #[(.func (.func 105) #[.pointer (some ⟨w.heap.size, 0, none⟩)] #[]), (.func (.func 106) #[.pointer (some ⟨w.heap.size, 0, none⟩)] #[]), (.func (.func 107) #[.pointer (some ⟨w.heap.size, 0, none⟩)] #[]), (.func (.func 108) #[.pointer (some ⟨w.heap.size, 0, none⟩)] #[])]) (.int .i64 2)).run Tryz.prog wz = .ok (.func (.func 107) #[.pointer (some ⟨w.heap.size, 0, none⟩)] #[]) wz := fun _ => by kernel_rfl
  have i3 : ∀ wz, (Instr.index 197 (.agg #[(.func (.func 105) #[.pointer (some ⟨w.heap.size, 0, none⟩)] #[]), (.func (.func 106) #[.pointer (some ⟨w.heap.size, 0, none⟩)] #[]), (.func (.func 107) #[.pointer (some ⟨w.heap.size, 0, none⟩)] #[]), (.func (.func 108) #[.pointer (some ⟨w.heap.size, 0, none⟩)] #[])]) (.int .i64 3)).run Tryz.prog wz = .ok (.func (.func 108) #[.pointer (some ⟨w.heap.size, 0, none⟩)] #[]) wz := fun _ => by kernel_rfl
  clear hS D
  go_enter Tryz.func83, Tryz.ntmps83
  go_wp2
  refine wp_loop_rounds 5 ?_
  rw [rounds_succ]
  go_wp2_with (go_at_call 105; refine (types14 _ _ _ P tb r a0 a1 p0 p1 HG.out HS.out h1 h2 h3).mono ?_; rintro e w2 ⟨rfl, ⟨v2, m, b0, b1, hg2, hm2, hn2, hk2⟩, bl2⟩; have HG2 := hid hg2; have HM2 := hid hm2; have HN2 := hid hn2; have HK2 := hid hk2; have HB2 := hid (HB.out.trans bl2); have HS2 := hid (HS.out.on bl2 h1 h2 h3); clear hg2 hm2 hn2 hk2 bl2)
  rw [rounds_succ]
  go_wp2_with (go_at_call 106; refine (vals14 _ _ P tb _ HG2.out.g HS2.out.p).mono ?_; rintro e w' ⟨rfl, hw⟩; rw [hw]; clear hw w')
  rw [rounds_succ]
  go_wp2_with (go_at_call 107; refine (subs14 _ _ P tb _ HG2.out.g HS2.out.p).mono ?_; rintro e w' ⟨rfl, hw⟩; rw [hw]; clear hw w')
  rw [rounds_succ]
  go_wp2_with (go_at_call 108; refine (funs14 _ _ P tb _ HG2.out.g HS2.out.p).mono ?_; rintro e w' ⟨rfl, hw⟩; rw [hw]; clear hw w')
  rw [rounds_succ]
  have g2 := HG2.out.g.cell 1
  simp only [List.getElem?_cons_succ, List.getElem?_cons_zero] at g2
  obtain ⟨pa, pc, rfl⟩ := own_form HG2.out.own
  go_wp2
  go_ret
  exact ⟨⟨_, _, _, _, rfl, HG2.out, HM2.out, HN2.out, HK2.out⟩, HB2.out⟩
end Go.Proofs.YtigliglmejkakaaGreat
