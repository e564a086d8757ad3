/- The document's Decimal: the walk. -/
import Derived.Laws.IdiomStrings
import Derived.Test.YtgnmgooljcgfiaaDoorTpDc
import Derived.Test.YtgnmgooljcgfiaaDoorTpT2
namespace Go.Proofs.YtgnmgooljcgfiaaDoor
open Go.RowKit
set_option linter.unusedVariables false
set_option linter.unusedSimpArgs false

theorem digit_nat (n : Int) : ((lastDigit n).toNat : Int) = 48 + ((n.natAbs % 10 : Nat) : Int) := by
  unfold lastDigit
  rw [UInt8.toNat_ofNat']
  omega
theorem tmod_nat (n : Int) : n.tmod 10 = (if n < 0 then -((n.natAbs % 10 : Nat) : Int) else ((n.natAbs % 10 : Nat) : Int)) := by
  split
  · obtain ⟨m, rfl⟩ : ∃ m : Nat, n = -(m : Int) := ⟨n.natAbs, by omega⟩
    rw [Int.neg_tmod, Int.natAbs_neg, Int.natAbs_natCast]
    rfl
  · obtain ⟨m, rfl⟩ : ∃ m : Nat, n = (m : Int) := ⟨n.natAbs, by omega⟩
    rw [Int.natAbs_natCast]
    rfl
theorem digit_neg {n : Int} (h : n < 0) : wrap64 (48 + wrap64 (-n.tmod 10)) % 256 = ((lastDigit n).toNat : Int) := by
  rw [digit_nat, tmod_nat, if_pos h, Int.neg_neg]
  have h1 := Nat.mod_lt n.natAbs (by decide : 10 > 0)
  generalize n.natAbs % 10 = d at h1
  rw [show wrap64 (d : Int) = d by unfold wrap64; omega]
  unfold wrap64
  omega
theorem digit_pos {n : Int} (h : ¬ n < 0) : wrap64 (48 + n.tmod 10) % 256 = ((lastDigit n).toNat : Int) := by
  rw [digit_nat, tmod_nat, if_neg h]
  have h1 := Nat.mod_lt n.natAbs (by decide : 10 > 0)
  generalize n.natAbs % 10 = d at h1
  unfold wrap64
  omega
theorem conv_one (w : World) (x : UInt8) (y : Int) (h : y = (x.toNat : Int)) : (convert 41 9 (.slice (some ⟨w.heap.size, 0, none⟩) 1 1)).run Tryd.prog (w.alloc (.cells #[.int .u8 y] 5)) = .ok (.string ⟨#[x]⟩) (w.alloc (.cells #[.int .u8 y] 5)) := by
  subst h
  refine run_convert_bytes_back _ _ _ 5 ⟨w.heap.size, 0, none⟩ 1 [x] Tryd.underlying41 Tryd.underlying5 Tryd.underlying9 (fun j hj => ?_)
  have : j = 0 := by simpa using hj
  subst this
  show World.cell? _ ⟨w.heap.size, 0, none⟩ = _
  rw [cell_at (heap_alloc_at _ _)]
  rfl
end Go.Proofs.YtgnmgooljcgfiaaDoor
