/- UnifyNils. -/
import Derived.Test.YtknlpeloaapaiaaUnB
namespace Go.Proofs.Ytknlpeloaapaiaa
open Go.RowKit Go.Shelf
set_option linter.unusedVariables false
set_option linter.unusedSimpArgs false

set_option maxHeartbeats 4000000 in
set_option maxRecDepth 100000 in
theorem nils_walk (w : World) (ka na kb nb : Int) (aa ab : Option Addr) (ma ca mb cb : Nat) : Calls Try.prog 3 #[.agg #[.int .i64 ka, .int .i64 na, .slice aa ma ca], .agg #[.int .i64 kb, .int .i64 nb, .slice ab mb cb]] w fun e w' => e = .returned (.bool true) ∧ Below w.heap.size w w' := by
  have A0 : Hid (Arr ((w.alloc (.cells #[.int .i64 ka, .int .i64 na, .slice aa ma ca] 24)).alloc (.cells #[.int .i64 kb, .int .i64 nb, .slice ab mb cb] 24)) w.heap.size 24 [.int .i64 ka, .int .i64 na, .slice aa ma ca]) := Arr.stays (w := w.alloc (.cells #[.int .i64 ka, .int .i64 na, .slice aa ma ca] 24)) ⟨heap_alloc_at _ _⟩ (bl_alloc (Below.refl _ _) _)
  have B0 : Hid (Arr ((w.alloc (.cells #[.int .i64 ka, .int .i64 na, .slice aa ma ca] 24)).alloc (.cells #[.int .i64 kb, .int .i64 nb, .slice ab mb cb] 24)) (w.heap.size + 1) 24 [.int .i64 kb, .int .i64 nb, .slice ab mb cb]) := ⟨by have := heap_alloc_at (w.alloc (.cells #[.int .i64 ka, .int .i64 na, .slice aa ma ca] 24)) (.cells #[.int .i64 kb, .int .i64 nb, .slice ab mb cb] 24); rw [size_alloc] at this; exact this⟩
  have W0 : Hid (Below w.heap.size w ((w.alloc (.cells #[.int .i64 ka, .int .i64 na, .slice aa ma ca] 24)).alloc (.cells #[.int .i64 kb, .int .i64 nb, .slice ab mb cb] 24))) := bl_alloc (bl_alloc (Below.refl _ _) _) _
  have hrs : Hid (∀ wz : World, Calls Try.prog 5 #[.pointer none, .agg #[.int .i64 ka, .int .i64 na, .slice aa ma ca]] wz fun e w' => e = .returned (.tuple #[.agg #[.int .i64 0, .int .i64 0, .slice none 0 0], .int .i64 2]) ∧ Below wz.heap.size wz w') := fun wz => Resolve_nil wz _ _ _ _ _
  have hme : Hid (∀ wz : World, Calls Try.prog 7 #[.pointer none] wz fun e w' => e = .returned (.agg #[.int .i64 0, .int .i64 0, .slice none 0 0]) ∧ Below wz.heap.size wz w') := Meta_nil
  have hun : Hid (∀ wz : World, Calls Try.prog 8 #[.pointer none, .agg #[.int .i64 ka, .int .i64 na, .slice aa ma ca], .agg #[.int .i64 kb, .int .i64 nb, .slice ab mb cb]] wz fun e w' => e = .returned (.int .i64 2) ∧ Below wz.heap.size wz w') := fun wz => Unify_nil wz _ _ _ _ _ _ _ _ _ _
  have hop : Hid (∀ wz : World, Calls Try.prog 9 #[.pointer none, .agg #[.int .i64 ka, .int .i64 na, .slice aa ma ca]] wz fun e w' => e = .returned (.slice none 0 0) ∧ Below wz.heap.size wz w') := fun wz => Open_nil wz _ _ _ _ _
  have hco : Hid (∀ wz : World, Calls Try.prog 10 #[.pointer none] wz fun e w' => e = .returned (.int .i64 0) ∧ Below wz.heap.size wz w') := Count_nil
  have hcn : Hid (∀ wz : World, Calls Try.prog 11 #[.pointer none] wz fun e w' => e = .returned (.pointer none) ∧ Below wz.heap.size wz w') := Clone_nil
  have hal : Hid (∀ wz : World, Calls Try.prog 12 #[] wz fun e w' => e = .returned (.bool true) ∧ Below wz.heap.size wz w') := alive11
  have hz : ∀ wz : World, TAt wz Any 1 [.int .i64 0, .int .i64 0, .slice none 0 0] (.mk 0 0 []) := fun wz => ⟨_, rfl, ⟨by decide, by decide⟩, ⟨by decide, by decide⟩, .inr ⟨rfl, _, _, rfl⟩⟩
  have hsm : Hid (∀ wz : World, Calls Try.prog 6 #[.agg #[.int .i64 0, .int .i64 0, .slice none 0 0], .agg #[.int .i64 0, .int .i64 0, .slice none 0 0]] wz fun e w' => e = .returned (.bool true) ∧ Below wz.heap.size wz w') := fun wz => by
    have := refSame_any wz 1 1 _ _ _ _ (hz wz) (hz wz)
    rw [show (Tp.cmp (.mk 0 0 []) (.mk 0 0 []) == 0) = true by rw [beq_iff_eq]; exact (Tp.cmp_eq _ _).2 rfl] at this
    exact this
  clear hz
  go_enter Try.func3, Try.ntmps3
  go_wp2_with (first
    | (go_at_call 5; refine (hrs.out _).mono ?_; rintro e w3 ⟨rfl, b3⟩; have c3 := bl_alloc b3 (.cells #[.int .i64 0, .int .i64 0, .slice none 0 0] 24); have B3 := hid (bl_tr W0.out c3); have a3 := (A0.out.stays c3).cell; have d3 := (B0.out.stays c3).cell; have A3 := hid (A0.out.stays c3); have D3 := hid (B0.out.stays c3); have E3 : Hid (Arr (w3.alloc (.cells #[.int .i64 0, .int .i64 0, .slice none 0 0] 24)) w3.heap.size 24 [.int .i64 0, .int .i64 0, .slice none 0 0]) := ⟨heap_alloc_at _ _⟩; have m1 := True.intro; clear b3 c3 hrs)
    | (go_at_call 7; refine (hme.out _).mono ?_; rintro e w4 ⟨rfl, b4⟩; have A4 := hid (A3.out.stays b4); have D4 := hid (D3.out.stays b4); have E4 := hid (E3.out.stays b4); have B4 := hid (bl_tr B3.out b4); clear b4 hme a3 d3)
    | (go_at_call 6; have := m1; refine (hsm.out _).mono ?_; rintro e w5 ⟨rfl, b5⟩; have A5 := hid (A4.out.stays b5); have D5 := hid (D4.out.stays b5); have E5 := hid (E4.out.stays b5); have B5 := hid (bl_tr B4.out b5); have a5 := A5.out.cell; have d5 := D5.out.cell; clear b5 m1)
    | (go_at_call 8; refine (hun.out _).mono ?_; rintro e w6 ⟨rfl, b6⟩; have A6 := hid (A5.out.stays b6); have E6 := hid (E5.out.stays b6); have B6 := hid (bl_tr B5.out b6); have e6 := E6.out.cell; clear b6 hun)
    | (go_at_call 6; refine (hsm.out _).mono ?_; rintro e w7 ⟨rfl, b7⟩; have A7 := hid (A6.out.stays b7); have B7 := hid (bl_tr B6.out b7); have a7 := A7.out.cell; clear b7)
    | (go_at_call 9; refine (hop.out _).mono ?_; rintro e w8 ⟨rfl, b8⟩; have B8 := hid (bl_tr B7.out b8); clear b8)
    | (go_at_call 10; refine (hco.out _).mono ?_; rintro e w9 ⟨rfl, b9⟩; have B9 := hid (bl_tr B8.out b9); clear b9)
    | (go_at_call 11; refine (hcn.out _).mono ?_; rintro e w10 ⟨rfl, b10⟩; have B10 := hid (bl_tr B9.out b10); clear b10)
    | (go_at_call 12; refine (hal.out _).mono ?_; rintro e w11 ⟨rfl, b11⟩; have B11 := hid (bl_tr B10.out b11); clear b11))
  go_ret
  exact ⟨rfl, B11.out⟩
end Go.Proofs.Ytknlpeloaapaiaa
