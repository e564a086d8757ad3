/- The document's part and list. -/
import Derived.Laws.Concat
import Derived.Lib.BufferRead
import Derived.Test.YtfeppchgmobfpaaGreatDoorTgR2
import Derived.Test.YtfeppchgmobfpaaGreatDoorTgR4
import Derived.Test.YtfeppchgmobfpaaGreatDoorTgW4
namespace Go.Proofs.YtfeppchgmobfpaaGreatDoor
open Go.RowKit
set_option linter.unusedVariables false
set_option linter.unusedSimpArgs false

def RTextOf (n : Nat) : Prop := ∀ (w : World) (a' : Option Addr) (c' : Nat) (a : Option Addr) (c : Nat) (t : Tt) (bv : Value) (B : List Int), TAt w Any n [.int .i64 t.k, .int .i64 t.n, .slice a' t.ls.length c', .slice a t.ks.length c] t → Ow w bv B → B.length + t.cnt ≤ 1099511627776 → (t.txt (envOf B)).length ≤ 140737488355328 →
  Calls Tryz.prog 34 #[.agg #[.int .i64 t.k, .int .i64 t.n, .slice a' t.ls.length c', .slice a t.ks.length c], bv] w fun e w' => e = .returned (.string ⟨(t.txt (envOf B)).toArray⟩) ∧ Below w.heap.size w w'
def RPartOf (n : Nat) : Prop := ∀ (w : World) (a' : Option Addr) (c' : Nat) (a : Option Addr) (c : Nat) (t : Tt) (bv : Value) (B : List Int), TAt w Any n [.int .i64 t.k, .int .i64 t.n, .slice a' t.ls.length c', .slice a t.ks.length c] t → Ow w bv B → B.length + t.cnt ≤ 1099511627776 → (Tt.clo t.k (t.txt (envOf B))).length ≤ 140737488355328 →
  Calls Tryz.prog 70 #[.agg #[.int .i64 t.k, .int .i64 t.n, .slice a' t.ls.length c', .slice a t.ks.length c], bv] w fun e w' => e = .returned (.string ⟨(Tt.clo t.k (t.txt (envOf B))).toArray⟩) ∧ Below w.heap.size w w'
theorem ret_str {a b : ByteArray} (h : a = b) : Ending.returned (.string a) = .returned (.string b) := by rw [h]

set_option maxHeartbeats 1000000 in
set_option maxRecDepth 100000 in
theorem part_of (n : Nat) (ih : RTextOf n) : RPartOf n := by
  intro w a' c' a c t bv B h hB hc hl
  have hlt : (t.txt (envOf B)).length ≤ 140737488355328 := by
    refine Nat.le_trans ?_ hl
    unfold Tt.clo
    split
    · simp; omega
    · exact Nat.le_refl _
  have XA : Hid (Arr (w.alloc (.cells #[.int .i64 t.k, .int .i64 t.n, .slice a' t.ls.length c', .slice a t.ks.length c] TY)) w.heap.size TY [.int .i64 t.k, .int .i64 t.n, .slice a' t.ls.length c', .slice a t.ks.length c]) := ⟨heap_alloc_at _ _⟩
  have B1 : Hid (Below w.heap.size w (w.alloc (.cells #[.int .i64 t.k, .int .i64 t.n, .slice a' t.ls.length c', .slice a t.ks.length c] TY))) := bl_alloc (Below.refl _ _) _
  have HX : Hid (∀ wz, Below (w.alloc (.cells #[.int .i64 t.k, .int .i64 t.n, .slice a' t.ls.length c', .slice a t.ks.length c] TY)).heap.size (w.alloc (.cells #[.int .i64 t.k, .int .i64 t.n, .slice a' t.ls.length c', .slice a t.ks.length c] TY)) wz → ∀ j, wz.cell? ⟨w.heap.size, j, none⟩ = [.int .i64 t.k, .int .i64 t.n, .slice a' t.ls.length c', .slice a t.ks.length c][j]?) := fun wz hz j => (XA.out.stays hz).cell j
  have TQ : Hid (∀ wz, Below w.heap.size w wz → Calls Tryz.prog 34 #[.agg #[.int .i64 t.k, .int .i64 t.n, .slice a' t.ls.length c', .slice a t.ks.length c], bv] wz fun e w' => e = .returned (.string ⟨(t.txt (envOf B)).toArray⟩) ∧ Below wz.heap.size wz w') := fun wz hz => ih wz a' c' a c t bv B (h.below hz) (hB.below hz) hc hlt
  have WQ : Hid (∀ wz, Calls Tryz.prog 107 #[.int .i64 t.k] wz fun e w' => e = .returned (.bool (decide (t.k = 4 ∨ t.k = 9 ∨ t.k = 10 ∨ t.k = 11))) ∧ w' = wz) := fun wz => wide_any wz t.k
  have x0 := HX.out _ (Below.refl _ _)
  have hc1 : ¬ 9223372036854775807 < 1 + (t.txt (envOf B)).length := by omega
  have hc2 : ¬ 9223372036854775807 < 1 + (t.txt (envOf B)).length + 1 := by omega
  by_cases hw : t.k = 4 ∨ t.k = 9 ∨ t.k = 10 ∨ t.k = 11
  · rw [decide_eq_true hw] at WQ
    have HR : Hid (Tt.clo t.k (t.txt (envOf B)) = [40] ++ t.txt (envOf B) ++ [41]) := by show _ = _; unfold Tt.clo; rw [if_pos hw]
    generalize Tt.clo t.k (t.txt (envOf B)) = res at HR ⊢
    generalize t.txt (envOf B) = s at HR TQ hc1 hc2
    clear hw ih h hB hc hl hlt
    go_enter Tryz.func70, Tryz.ntmps70
    go_wp2_with (first
      | (go_at_call 107; refine (WQ.out _).mono ?_; rintro e w3 ⟨rfl, rfl⟩; clear WQ)
      | (go_at_call 34; refine (TQ.out _ B1.out).mono ?_; rintro e w3 ⟨rfl, b3⟩; clear TQ))
    go_ret
    exact ⟨ret_str (by rw [HR.out, ← ByteArray.mk_append_mk, ← ByteArray.mk_append_mk]), bl_tr B1.out b3⟩
  · rw [decide_eq_false hw] at WQ
    have HR : Hid (Tt.clo t.k (t.txt (envOf B)) = t.txt (envOf B)) := by show _ = _; unfold Tt.clo; rw [if_neg hw]
    generalize Tt.clo t.k (t.txt (envOf B)) = res at HR ⊢
    generalize t.txt (envOf B) = s at HR TQ hc1 hc2
    clear hw ih h hB hc hl hlt
    go_enter Tryz.func70, Tryz.ntmps70
    go_wp2_with (first
      | (go_at_call 107; refine (WQ.out _).mono ?_; rintro e w3 ⟨rfl, rfl⟩; clear WQ)
      | (go_at_call 34; refine (TQ.out _ B1.out).mono ?_; rintro e w3 ⟨rfl, b3⟩; clear TQ))
    go_ret
    exact ⟨ret_str (by rw [HR.out]), bl_tr B1.out b3⟩
/-- Bytes of its own, from block B0 on. -/
def Bo (B0 : Nat) (w : World) (v : Value) (l : List UInt8) : Prop := w.ownsRow B0 U8 1 v l.length (Lib.byteCells l)
theorem Bo.app {B0 : Nat} {W w : World} {v : Value} {l : List UInt8} (h : Bo B0 w v l) (hB : Below B0 W w) (hle : B0 ≤ w.heap.size) (s : ByteArray) (hb : l.length + s.size ≤ 140737488355328) :
    ∃ v' w', (Builtin.append_ #[57, 9] 57 #[v, .string s]).run Tryz.prog w = .ok v' w' ∧ Bo B0 w' v' (l ++ s.data.toList) ∧ Below B0 W w' ∧ B0 ≤ w'.heap.size := by
  obtain ⟨i0, hi, hz0, hz1, hz2⟩ := info_parts0 infoByte
  obtain ⟨v', w', hr, ho, hg, -⟩ := append_str2 (P := Tryz.prog) w B0 57 9 57 U8 i0 Tryz.underlying57 Tryz.underlying9 hi hz0 hz1 hz2 v l.length _ h s hb hle
  refine ⟨v', w', hr, ?_, hB.grown hg hle (fun b hb => (h.lt b hb).1), Nat.le_trans hle (by obtain ⟨_, _, _, h4, _⟩ := hg; exact h4)⟩
  unfold Bo
  have e1 : (l ++ s.data.toList).length = l.length + s.size := by rw [List.length_append]; rfl
  rw [e1]
  simpa [Lib.byteCells, Lib.strCells] using ho
theorem Bo.str {B0 : Nat} {w : World} {v : Value} {l : List UInt8} (h : Bo B0 w v l) : (convert 57 9 v).run Tryz.prog w = .ok (.string ⟨l.toArray⟩) w := by
  have h0 := h
  rcases h.2 with ⟨rfl, h1⟩ | ⟨g, cap, cur, rfl, hbg, hg, hnc, hcm, hcs, htake⟩
  · rw [List.eq_nil_of_length_eq_zero h1]
    exact Lib.run_convert_nil_bytes w _ _ 5 0 Tryz.underlying57 Tryz.underlying5 Tryz.underlying9
  · refine run_convert_bytes_back _ _ _ 5 ⟨g, 0, none⟩ cap l Tryz.underlying57 Tryz.underlying5 Tryz.underlying9 (fun j hj => ?_)
    exact h0.cells (g := g) rfl j _ (by simp [Lib.byteCells, List.getElem?_eq_getElem hj])
theorem Bo.form {B0 : Nat} {w : World} {v : Value} {l : List UInt8} (h : Bo B0 w v l) : ∃ a c, v = .slice a l.length c := by
  rcases h.2 with ⟨rfl, h1⟩ | ⟨g, cap, cur, rfl, hbg, hg, hnc, hcm, hcs, htake⟩
  · rw [h1]; exact ⟨_, _, rfl⟩
  · exact ⟨_, _, rfl⟩
end Go.Proofs.YtfeppchgmobfpaaGreatDoor
