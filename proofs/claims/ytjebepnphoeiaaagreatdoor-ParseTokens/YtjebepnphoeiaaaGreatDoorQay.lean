/- Pieces: GrCz. -/
import Derived.Test.YtjebepnphoeiaaaGreatDoorQam
import Derived.Test.YtjebepnphoeiaaaGreatDoorQan
import Derived.Test.YtjebepnphoeiaaaGreatDoorQao
import Derived.Test.YtjebepnphoeiaaaGreatDoorQar
import Derived.Test.YtjebepnphoeiaaaGreatDoorQas
import Derived.Test.YtjebepnphoeiaaaGreatDoorQat
import Derived.Test.YtjebepnphoeiaaaGreatDoorQau
import Derived.Test.YtjebepnphoeiaaaGreatDoorQav
import Derived.Test.YtjebepnphoeiaaaGreatDoorQaw
import Derived.Test.YtjebepnphoeiaaaGreatDoorQax
namespace Go.Proofs.YtjebepnphoeiaaaGreatDoor
open Go.RowKit
set_option linter.unusedVariables false

structure Gr.Exps (k : Nat) : Prop where
 exp : Gr.Rule 27 .exp 2 k
 cmp : Gr.Rule 73 .cmp 2 k
 sum : Gr.Rule 126 .sum 2 k
 prod : Gr.Rule 196 .prod 2 k
 app : Gr.Rule 240 .app 2 k
 atom : Gr.Rule2 259 .atom 2 Gr.begE k
 rest : Gr.Rule 267 .restExp 2 k
 lets : Gr.Rule 268 (.letGo []) 2 k
 case : Gr.Rule 269 .case 2 k
 dec : Gr.Rule 103 .dec 3 k
theorem gr_exps : ∀ (f k : Nat), k ≤ f → Gr.Exps k
 | 0, k, hk => by
  obtain rfl : k = 0 := by omega
  exact ⟨Gr.Rule.zero _ _ _, Gr.Rule.zero _ _ _, Gr.Rule.zero _ _ _, Gr.Rule.zero _ _ _, Gr.Rule.zero _ _ _, Gr.Rule2.zero _ _ _ _, Gr.Rule.zero _ _ _, Gr.Rule.zero _ _ _, Gr.Rule.zero _ _ _, Gr.Rule.zero _ _ _⟩
 | f + 1, k, hk => by
  have ih := gr_exps f
  by_cases he : k = f + 1
  ·
   subst he
   have h := ih f (Nat.le_refl _)
   exact ⟨gr_exp f (gr_pats f).1 h.exp h.cmp, gr_compared f h.sum, gr_sum f (fun j hj => (ih j hj).prod), gr_product f (fun j hj => (ih j hj).app), gr_application f (fun j hj => (ih j hj).atom) gr_atom0, gr_atom f h.rest h.lets h.case,
    gr_restExp f h.exp (gr_types f f (Nat.le_refl _)).1, gr_restLet (f + 1) (fun j hj => (ih j (by omega)).dec) (fun j hj => (ih j (by omega)).exp), gr_restCase f (fun j hj => (gr_pats j).1) (fun j hj => (ih j hj).exp), gr_dec f (gr_types f f (Nat.le_refl _)).1 h.exp⟩
  ·
   exact ih k (by omega)
def Gr.enough : Nat := 10 * 1024 + 100
end Go.Proofs.YtjebepnphoeiaaaGreatDoor
