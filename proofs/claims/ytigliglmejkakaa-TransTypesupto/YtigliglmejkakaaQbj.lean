/- gathered of alive's structure. -/
import Derived.Test.YtigliglmejkakaaQbi
namespace Go.Proofs.Ytigliglmejkakaa
open Go.RowKit
set_option linter.unusedVariables false
set_option linter.unusedSimpArgs false

set_option maxHeartbeats 2000000 in
set_option maxRecDepth 100000 in
theorem gathered14 (w : World) (P tb r : Nat) (a0 a1 : Option Addr) (p0 p1 : Nat) (hS : Str14 P tb r a0 a1 p0 p1 w) :
    Calls Try.prog 60 #[.pointer (some ⟨P, 0, none⟩)] w fun e w' => (∃ v m b0 b1, e = .returned v ∧ Gt w.heap.size (w.heap.size + 1) P 3 v [.string ⟨bO.toArray⟩, .func (.func 74) #[] #[.pointer (some ⟨m, 0, none⟩)], .string ⟨bN.toArray⟩, .func (.func 77) #[] #[.pointer (some ⟨m, 0, none⟩), .pointer (some ⟨b0, 0, none⟩)], .string ⟨bC.toArray⟩, .func (.func 77) #[] #[.pointer (some ⟨m, 0, none⟩), .pointer (some ⟨b1, 0, none⟩)]] w' ∧ Arr w' m 110 [.pointer (some ⟨tb, 0, none⟩)] ∧ Arr w' b0 43 [.string (ByteArray.mk #[78, 105, 108]), .slice a0 0 p0] ∧ Arr w' b1 43 [.string (ByteArray.mk #[67, 111, 110, 115]), .slice a1 1 p1]) ∧ Below w.heap.size w w' := by
  have h1 : P < w.heap.size := hS.p.lt
  have h2 : tb < w.heap.size := hS.m.lt
  have h3 : r < w.heap.size := World.block_lt_of_cell? _ _ hS.c0
  have D : Below w.heap.size w (w.alloc (.cells #[.pointer (some ⟨P, 0, none⟩), .slice none 0 0] 105)) := bl_alloc (Below.refl _ _) _
  have HG : Hid (Gt w.heap.size (w.heap.size + 1) P 0 (.slice none 0 0) [] (w.alloc (.cells #[.pointer (some ⟨P, 0, none⟩), .slice none 0 0] 105))) := ⟨Nat.lt_succ_self _, by rw [size_alloc]; exact Nat.le_refl _, ⟨heap_alloc_at _ _⟩, World.ownsRow_nil _ _ _ _⟩
  have HS := hid (hS.on D h1 h2 h3)
  have HB := hid D
  have i0 : ∀ wz, (Instr.index 106 (.agg #[(.func (.func 66) #[.pointer (some ⟨w.heap.size, 0, none⟩)] #[]), (.func (.func 67) #[.pointer (some ⟨w.heap.size, 0, none⟩)] #[]), (.func (.func 68) #[.pointer (some ⟨w.heap.size, 0, none⟩)] #[]), (.func (.func 69) #[.pointer (some ⟨w.heap.size, 0, none⟩)] #[])]) (.int .i64 0)).run Try.prog wz = .ok (.func (.func 66) #[.pointer (some ⟨w.heap.size, 0, none⟩)] #[]) wz := fun _ => by kernel_rfl
  have i1 : ∀ wz, (Instr.index 106 (.agg #[(.func (.func 66) #[.pointer (some ⟨w.heap.size, 0, none⟩)] #[]), (.func (.func 67) #[.pointer (some ⟨w.heap.size, 0, none⟩)] #[]), (.func (.func 68) #[.pointer (some ⟨w.heap.size, 0, none⟩)] #[]), (.func (.func 69) #[.pointer (some ⟨w.heap.size, 0, none⟩)] #[])]) (.int .i64 1)).run Try.prog wz = .ok (.func (.func 67) #[.pointer (some ⟨w.heap.size, 0, none⟩)] #[]) wz := fun _ => by kernel_rfl
  have i2 : ∀ wz, (Instr.index 106 (.agg #[(.func (.func 66) #[.pointer (some ⟨w.heap.size, 0, none⟩)] #[]), (.func (.func 67) #[.pointer (some ⟨w.heap.size, 0, none⟩)] #[]), (.func (.func 68) #[.pointer (some ⟨w.heap.size, 0, none⟩)] #[]), (.func (.func 69) #[.pointer (some ⟨w.heap.size, 0, none⟩)] #[])]) (.int .i64 2)).run Try.prog wz = .ok (.func (.func 68) #[.pointer (some ⟨w.heap.size, 0, none⟩)] #[]) wz := fun _ => by kernel_rfl
  have i3 : ∀ wz, (Instr.index 106 (.agg #[(.func (.func 66) #[.pointer (some ⟨w.heap.size, 0, none⟩)] #[]), (.func (.func 67) #[.pointer (some ⟨w.heap.size, 0, none⟩)] #[]), (.func (.func 68) #[.pointer (some ⟨w.heap.size, 0, none⟩)] #[]), (.func (.func 69) #[.pointer (some ⟨w.heap.size, 0, none⟩)] #[])]) (.int .i64 3)).run Try.prog wz = .ok (.func (.func 69) #[.pointer (some ⟨w.heap.size, 0, none⟩)] #[]) wz := fun _ => by kernel_rfl
  clear hS D
  go_enter Try.func60, Try.ntmps60
  go_wp2
  refine wp_loop_rounds 5 ?_
  rw [rounds_succ]
  go_wp2_with (go_at_call 66; refine (types14 _ _ _ P tb r a0 a1 p0 p1 HG.out HS.out h1 h2 h3).mono ?_; rintro e w2 ⟨rfl, ⟨v2, m, b0, b1, hg2, hm2, hn2, hk2⟩, bl2⟩; have HG2 := hid hg2; have HM2 := hid hm2; have HN2 := hid hn2; have HK2 := hid hk2; have HB2 := hid (HB.out.trans bl2); have HS2 := hid (HS.out.on bl2 h1 h2 h3); clear hg2 hm2 hn2 hk2 bl2)
  rw [rounds_succ]
  go_wp2_with (go_at_call 67; refine (vals14 _ _ P tb _ HG2.out.g HS2.out.p).mono ?_; rintro e w' ⟨rfl, hw⟩; rw [hw]; clear hw w')
  rw [rounds_succ]
  go_wp2_with (go_at_call 68; refine (subs14 _ _ P tb _ HG2.out.g HS2.out.p).mono ?_; rintro e w' ⟨rfl, hw⟩; rw [hw]; clear hw w')
  rw [rounds_succ]
  go_wp2_with (go_at_call 69; refine (funs14 _ _ P tb _ HG2.out.g HS2.out.p).mono ?_; rintro e w' ⟨rfl, hw⟩; rw [hw]; clear hw w')
  rw [rounds_succ]
  have g2 := HG2.out.g.cell 1
  simp only [List.getElem?_cons_succ, List.getElem?_cons_zero] at g2
  obtain ⟨pa, pc, rfl⟩ := own_form HG2.out.own
  go_wp2
  go_ret
  exact ⟨⟨_, _, _, _, rfl, HG2.out, HM2.out, HN2.out, HK2.out⟩, HB2.out⟩
end Go.Proofs.Ytigliglmejkakaa
