/- The document's Same: what its contracts say. -/
import Derived.Test.YtgiegjghldhppaaNdS
namespace Go.Proofs.Ytgiegjghldhppaa
open Go.RowKit
set_option linter.unusedVariables false

def RefSameOf (f : FuncId) (n s : Nat) : Prop := ∀ (w : World) (v1 v2 : Value) (xs ys : List Nd), AtL w Any n s v1 xs → AtL w Any n s v2 ys →
  Calls Try.prog f #[v1, v2] w fun e w' => e = .returned (.bool (Nd.eqL xs ys)) ∧ Below w.heap.size w w'
theorem refTexts_b (a b : Value) (xs ys : List ByteArray) (w : World) (ha : Strs w a xs) (hb : Strs w b ys) (hx : xs.length ≤ maxLen) (hy : ys.length ≤ maxLen) :
    Calls Try.prog 42 #[a, b] w fun e w' => e = .returned (.bool (decide (xs = ys))) ∧ Below w.heap.size w w' :=
  (refTexts_any a b xs ys w ha hb hx hy).mono fun e w' ⟨h1, n, h2⟩ => ⟨h1, by rw [h2]; exact bl_drewN _ _⟩
theorem Fr.drew {w wc : World} {va vb : List Value} (h : Fr w wc va vb) : Fr w wc.drew va vb := ⟨h.bl.drew, h.sz, h.a, h.b⟩
end Go.Proofs.Ytgiegjghldhppaa
