/- Pieces: GrZ. -/
import Derived.Test.YtjebepnphoeiaabGreatDoorQbe
import Derived.Test.YtjebepnphoeiaabGreatDoorQbf
import Derived.Test.YtjebepnphoeiaabGreatDoorQbg
import Derived.Test.YtjebepnphoeiaabGreatDoorQbh
namespace Go.Proofs.YtjebepnphoeiaabGreatDoor
open Go.RowKit
set_option linter.unusedVariables false

theorem Gr.Rule.zero (fn : FuncId) (nt : Gr.Nt) (s : Nat) : Gr.Rule fn nt s 0 := fun w B S ts h hne => absurd rfl hne
theorem Gr.Rule2.zero (fn : FuncId) (nt : Gr.Nt) (s : Nat) (beg : Gr.Ts → Bool) : Gr.Rule2 fn nt s beg 0 := fun w B S ts h hb hne => absurd rfl hne

theorem gr_types : ∀ (f k : Nat), k ≤ f → Gr.Rule 23 .ty 0 k ∧ Gr.Rule 56 .pairTy 0 k ∧ Gr.Rule 89 .atomTy 0 k
 | 0, k, hk => by
  obtain rfl : k = 0 := by omega
  exact ⟨Gr.Rule.zero _ _ _, Gr.Rule.zero _ _ _, Gr.Rule.zero _ _ _⟩
 | f + 1, k, hk => by
  have ih := gr_types f
  by_cases he : k = f + 1
  ·
   subst he
   have h := ih f (Nat.le_refl _)
   exact ⟨gr_ty f h.2.1 h.1, gr_pairTy f (fun j hj => (ih j hj).2.2), gr_atomTy f h.1⟩
  ·
   exact ih k (by omega)

theorem gr_pats : ∀ (f : Nat), Gr.Rule 16 .pat 1 f ∧ Gr.Rule2 36 .atomPat 1 Gr.begP f ∧ Gr.Rule 64 .restPat 1 f
 | 0 => ⟨Gr.Rule.zero _ _ _, Gr.Rule2.zero _ _ _ _, Gr.Rule.zero _ _ _⟩
 | f + 1 => by
  have ih := gr_pats f
  exact ⟨gr_pat f ih.2.1 gr_atomPat0, gr_atomPat f ih.2.2, gr_restPat f ih.1⟩
end Go.Proofs.YtjebepnphoeiaabGreatDoor
