/- The labels of alive's structure, in order. The gatherer of alive's structure: add, and the methods that find nothing. -/
import Derived.Laws.EntriesVeiled
import Derived.Test.YtigliglmejkakaaQbc
namespace Go.Proofs.Ytigliglmejkakaa
open Go.RowKit Go.Shelf Go.Sort
set_option linter.unusedVariables false
set_option linter.unusedSimpArgs false

def bO : List UInt8 := [111, 117, 116, 32, 116]
def bN : List UInt8 := [78, 105, 108, 40, 41]
def bC : List UInt8 := [67, 111, 110, 115, 40, 41]
theorem sorted3 {zs : List (List UInt8)} (h1 : zs.length = 3) (h2 : zs.Perm [bO, bN, bC]) (h3 : ∀ i j, i < j → j < zs.length → ¬ Lib.compareBytes zs.toArray[j]! zs.toArray[i]! < 0) : zs = [bC, bN, bO] := by
  match zs, h1 with
  | [a, b, c], _ =>
    have ha := h2.mem_iff.1 (show a ∈ [a, b, c] by simp)
    have hb := h2.mem_iff.1 (show b ∈ [a, b, c] by simp)
    have hc := h2.mem_iff.1 (show c ∈ [a, b, c] by simp)
    have s1 := h3 0 1 (by omega) (by simp)
    have s2 := h3 1 2 (by omega) (by simp)
    clear h3
    simp only [List.mem_cons, List.not_mem_nil, or_false] at ha hb hc
    set_option maxRecDepth 100000 in
    rcases ha with rfl | rfl | rfl <;> rcases hb with rfl | rfl | rfl <;> rcases hc with rfl | rfl | rfl <;> first | rfl | exact absurd h2 (by decide +kernel) | exact absurd s1 (by decide +kernel) | exact absurd s2 (by decide +kernel)
theorem info_str : (Try.prog.info? 9).map (fun i => (i.zero, i.size, i.bytes)) = some (some (.string ByteArray.empty), 1, 16) := by kernel_rfl
theorem mk3 (w : World) : (Instr.makeSlice 27 (.int .i64 3) (.int .i64 3)).run Try.prog w = .ok (.slice (some ⟨w.heap.size, 0, none⟩) 3 3) (w.alloc (.cells #[.string ByteArray.empty, .string ByteArray.empty, .string ByteArray.empty] 9)) := by
  obtain ⟨i, hi, hz, hs, hb⟩ := info_parts0 info_str
  have h := run_make (P := Try.prog) w 27 9 i _ Try.underlying27 hi hz .i64 .i64 3 3 (by omega) (Int.le_refl _) (by rw [hb]; omega) (by omega)
  have he : madeCells (Value.string ByteArray.empty).cells 3 = #[.string ByteArray.empty, .string ByteArray.empty, .string ByteArray.empty] := by
    apply Array.ext'
    exact toList_madeCells_one _ 3
  rw [h, hs]
  show Result.ok _ (w.alloc (Obj.cells (madeCells (Value.string ByteArray.empty).cells 3) _)) = _
  rw [he]
  rfl

set_option maxHeartbeats 1000000 in
set_option maxRecDepth 100000 in
theorem inOrder14 (w : World) (fb fo cap : Nat) (k0 k1 k2 : FuncId) (e0 e1 e2 : Array Value) (HU : ∀ wz, Below w.heap.size w wz → wz.cell? ⟨fb, fo, none⟩ = some (.string ⟨bO.toArray⟩) ∧ wz.cell? ⟨fb, fo + 1, none⟩ = some (.func (.func k0) #[] e0) ∧ wz.cell? ⟨fb, fo + 2, none⟩ = some (.string ⟨bN.toArray⟩) ∧ wz.cell? ⟨fb, fo + 3, none⟩ = some (.func (.func k1) #[] e1) ∧ wz.cell? ⟨fb, fo + 4, none⟩ = some (.string ⟨bC.toArray⟩) ∧ wz.cell? ⟨fb, fo + 5, none⟩ = some (.func (.func k2) #[] e2)) :
    Calls Try.prog 61 #[.slice (some ⟨fb, fo, none⟩) 3 cap] w fun e w' => e = .returned (.slice (some ⟨w.heap.size, 0, none⟩) 3 3) ∧ Holds encStr w' w.heap.size 0 #[bC, bN, bO] ∧ w.heap.size < w'.heap.size ∧ Below w.heap.size w w' := by
  have hmk := mk3
  have HUU := hid HU
  have X : Hid (Arr (w.alloc (.cells #[.string ByteArray.empty, .string ByteArray.empty, .string ByteArray.empty] 9)) w.heap.size 9 [.string ByteArray.empty, .string ByteArray.empty, .string ByteArray.empty] ∧ Below w.heap.size w (w.alloc (.cells #[.string ByteArray.empty, .string ByteArray.empty, .string ByteArray.empty] 9))) := ⟨⟨heap_alloc_at _ _⟩, bl_alloc (Below.refl _ _) _⟩
  clear HU
  go_enter Try.func61, Try.ntmps61
  go_wp2
  generalize (w.alloc (.cells #[.string ByteArray.empty, .string ByteArray.empty, .string ByteArray.empty] 9)) = W1 at X ⊢
  clear hmk
  go_loopw [11] (fun v wr => Hid ((v = .int .i64 0 ∧ Arr wr w.heap.size 9 [.string ByteArray.empty, .string ByteArray.empty, .string ByteArray.empty] ∧ Below w.heap.size w wr) ∨ (v = .int .i64 1 ∧ Arr wr w.heap.size 9 [.string ⟨bO.toArray⟩, .string ByteArray.empty, .string ByteArray.empty] ∧ Below w.heap.size w wr) ∨ (v = .int .i64 2 ∧ Arr wr w.heap.size 9 [.string ⟨bO.toArray⟩, .string ⟨bN.toArray⟩, .string ByteArray.empty] ∧ Below w.heap.size w wr) ∨ (v = .int .i64 3 ∧ Arr wr w.heap.size 9 [.string ⟨bO.toArray⟩, .string ⟨bN.toArray⟩, .string ⟨bC.toArray⟩] ∧ Below w.heap.size w wr))) (fun v _ => 3 - (intOf v).toNat)
  case atStart => exact .inl ⟨rfl, X.out⟩
  case round =>
    clear X W1
    rcases hrel.out with ⟨hv, hA, hB⟩ | ⟨hv, hA, hB⟩ | ⟨hv, hA, hB⟩ | ⟨hv, hA, hB⟩
    · subst hv
      clear hrel
      obtain ⟨u0, u1, u2, u3, u4, u5⟩ := HUU.out _ hB
      have hba := fun o => bl_alloc (Below.refl wr.heap.size wr) o
      have HA := hid hA
      have x0 := fun o => (hA.stays (hba o)).cell
      have x1 := fun o => (hA.stays (hba o)).frozen
      have HB := hid hB
      clear hA hB
      go_wp2
      go_roundw
      case rel => exact .inr (.inl ⟨by go_num, (HA.out.stays (hba _)).set 0 _, (bl_alloc HB.out _).setCell (p := ⟨w.heap.size, 0, none⟩) (Nat.le_refl _) _⟩)
      case measure => simp [intOf]
    · subst hv
      clear hrel
      obtain ⟨u0, u1, u2, u3, u4, u5⟩ := HUU.out _ hB
      have hba := fun o => bl_alloc (Below.refl wr.heap.size wr) o
      have HA := hid hA
      have x0 := fun o => (hA.stays (hba o)).cell
      have x1 := fun o => (hA.stays (hba o)).frozen
      have HB := hid hB
      clear hA hB
      go_wp2
      go_roundw
      case rel => exact .inr (.inr (.inl ⟨by go_num, (HA.out.stays (hba _)).set 1 _, (bl_alloc HB.out _).setCell (p := ⟨w.heap.size, 1, none⟩) (Nat.le_refl _) _⟩))
      case measure => simp [intOf]
    · subst hv
      clear hrel
      obtain ⟨u0, u1, u2, u3, u4, u5⟩ := HUU.out _ hB
      have hba := fun o => bl_alloc (Below.refl wr.heap.size wr) o
      have HA := hid hA
      have x0 := fun o => (hA.stays (hba o)).cell
      have x1 := fun o => (hA.stays (hba o)).frozen
      have HB := hid hB
      clear hA hB
      go_wp2
      go_roundw
      case rel => exact .inr (.inr (.inr ⟨by go_num, (HA.out.stays (hba _)).set 2 _, (bl_alloc HB.out _).setCell (p := ⟨w.heap.size, 2, none⟩) (Nat.le_refl _) _⟩))
      case measure => simp [intOf]
    · subst hv
      clear hrel
      have HA := hid hA
      have HB := hid hB
      have hS : Hid (Calls Try.prog 70 #[.slice (some ⟨w.heap.size, 0, none⟩) 3 3, .func (.func 64) #[] #[]] wr fun e w' => e = .returned (.tuple #[]) ∧ Holds encStr w' w.heap.size 0 #[bC, bN, bO] ∧ w.heap.size < w'.heap.size ∧ Below w.heap.size wr w') := by
        refine (sort_row w.heap.size 3 3 w.heap.size #[bO, bN, bC] wr rfl (fun j hj => ?_) hA.lt (Nat.le_refl _) (by omega)).mono ?_
        · match j, hj with
          | 0, _ => exact ⟨hA.cell 0, hA.frozen 0⟩
          | 1, _ => exact ⟨hA.cell 1, hA.frozen 1⟩
          | 2, _ => exact ⟨hA.cell 2, hA.frozen 2⟩
          | k + 3, hj => exact absurd hj (by show ¬ k + 3 < 3; omega)
        · rintro e w' ⟨rfl, zs, ⟨h1, h2, h3⟩, h4, h5, h6⟩
          rw [sorted3 h1 h2 h3] at h4
          exact ⟨rfl, h4, h5, h6⟩
      clear hA hB
      go_wp2_with (go_at_call 70; refine hS.out.mono ?_; rintro e w2 ⟨rfl, hH2, hg2, b2⟩; have HH := hid hH2; have HG := hid hg2; have HB2 := hid (HB.out.trans b2); clear hH2 hg2 b2)
      go_ret
      exact ⟨rfl, HH.out, HG.out, HB2.out⟩
end Go.Proofs.Ytigliglmejkakaa

namespace Go.Proofs.Ytigliglmejkakaa
open Go.RowKit
set_option linter.unusedVariables false
set_option linter.unusedSimpArgs false

theorem info_field : (Try.prog.info? 96).map (fun i => (i.zero, i.size, i.bytes)) = some (some (.agg #[.string ByteArray.empty, .nilFunc]), 2, 24) := by kernel_rfl
/-- A gatherer in G, its fields in a row of their own from base on. -/
structure Gt (G base P n : Nat) (v : Value) (xs : List Value) (w : World) : Prop where
  lo : G < base
  le : base ≤ w.heap.size
  g : Arr w G 105 [.pointer (some ⟨P, 0, none⟩), v]
  own : w.ownsRow base 96 2 v n xs
theorem Gt.stays {G base P n : Nat} {v : Value} {xs : List Value} {w w' : World} (h : Gt G base P n v xs w) (hb : Below w.heap.size w w') : Gt G base P n v xs w' := ⟨h.lo, Nat.le_trans h.le hb.size, h.g.stays hb, own_stays h.own hb⟩
/-- A row's block has its type. -/
theorem own_typed {w : World} {base : Nat} {e T : TypeId} {size n b : Nat} {v : Value} {xs cur : List Value} (h : w.ownsRow base e size v n xs) (hA : Arr w b T cur) (hT : T ≠ e) : some b ≠ v.ownBlock := by
  rcases h.2 with ⟨rfl, h0⟩ | ⟨g, cap, cs, rfl, hb, hh, hrest⟩
  · intro h; cases h
  · intro hq
    have hq : some b = some g := hq
    injection hq with hq
    subst hq
    have := hA.b
    rw [hh] at this
    injection this with this
    injection this with h1 h2 h3
    exact hT h2.symm
/-- What add leaves alone. -/
structure Ad (G : Nat) (w w' : World) : Prop where
  size : w.heap.size ≤ w'.heap.size
  bl : Below G w w'
  arr : ∀ (b : Nat) (T : TypeId) (cur : List Value), b ≠ G → T ≠ 96 → Arr w b T cur → Arr w' b T cur

set_option maxHeartbeats 1000000 in
set_option maxRecDepth 100000 in
theorem gadd_any (w : World) (G base P n : Nat) (v : Value) (xs : List Value) (lab : ByteArray) (fn : Fn) (fs bs : Array Value) (h : Gt G base P n v xs w) (hn : n ≤ 1048576) : Calls Try.prog 72 #[.pointer (some ⟨G, 0, none⟩), .string lab, .func fn fs bs] w fun e w' => e = .returned (.tuple #[]) ∧ (∃ v', Gt G base P (n + 1) v' (xs ++ [.string lab, .func fn fs bs]) w') ∧ Ad G w w' := by
  obtain ⟨p, c, rfl⟩ := own_form h.own
  have g0 := h.g.cell
  have g1 : ∀ o, (w.alloc o).cell? ⟨G, 1, none⟩ = some (.slice p n c) := fun o => (h.g.stays (bl_alloc (Below.refl _ _) o)).cell 1
  obtain ⟨i0, hi0, hz0, hz1, hz2⟩ := info_parts0 info_field
  have HG := hid h
  clear h
  go_enter Try.func72, Try.ntmps72
  go_wp2_with (at_builtin; refine wpList_append_own _ rfl _ _ 90 rfl base 96 i0 (.agg #[.string ByteArray.empty, .nilFunc]) 2 24 Try.underlying90 hi0 hz0 hz1 hz2 rfl (by decide) _ n xs rfl (HG.out.own.alloc _) ⟨w.heap.size, 0, none⟩ 1 1 [.string lab, .func fn fs bs] rfl rfl ?c1 ?c2 ?c3 ?c4 ?c5 ?_)
  case c1 =>
    intro j u hj
    match j, hj with
    | 0, hj => simp at hj; subst hj; simp [Addr.add]
    | 1, hj => simp at hj; subst hj; simp [Addr.add]
    | j + 2, hj => simp at hj
  case c2 => intro u hu; simp at hu; rcases hu with rfl | rfl <;> rfl
  case c3 => unfold maxLen; omega
  case c4 => omega
  case c5 => have := HG.out.le; simp; omega
  intro v' w2 hown hgrow _
  have HA : Hid (Gt G base P n (.slice p n c) xs (w.alloc (.cells #[.string lab, .func fn fs bs] 96))) := HG.out.stays (bl_alloc (Below.refl _ _) _)
  have hne : some G ≠ (Value.slice p n c).ownBlock := fun e => by have := (HG.out.own.lt G e.symm).1; have := HG.out.lo; omega
  have HG2 : Hid (Arr w2 G 105 [.pointer (some ⟨P, 0, none⟩), .slice p n c]) := HA.out.g.grown hgrow hne
  have x2 := HG2.out.cell
  have z2 := HG2.out.frozen
  obtain ⟨va, vc, rfl⟩ := own_form hown
  have HO := hid hown
  have HGR := hid hgrow
  clear hown hgrow g0 g1
  go_wp2
  first | refine bodyPost_end (results_none rfl _ _ _) rfl ?_ | refine bodyPost_ret (results_none rfl _ _ _) rfl ?_
  have hlo := HG.out.lo
  have hle := HG.out.le
  have hrow' : ∀ b, (Value.slice va (n + 1) vc).ownBlock = some b → base ≤ b := fun b hb => (HO.out.lt b hb).1
  refine ⟨rfl, ⟨_, ⟨hlo, ?_, HG2.out.set 1 _, ?_⟩⟩, ⟨?_, ?_, ?_⟩⟩
  · have := HGR.out.size; simp [World.setCell] at *; omega
  · exact HO.out.kept (row := some G) ⟨rfl, rfl, rfl, by simp [World.setCell], fun b _ hb => Below.heap_setCell _ _ _ _ (fun e => hb (by simp [e]))⟩ (Or.inr (fun e => by have := hrow' _ e; omega))
  · have := HGR.out.size; simp [World.setCell] at *; omega
  · have hB1 : Below G w (w.alloc (.cells #[.string lab, .func fn fs bs] 96)) := (bl_alloc (Below.refl w.heap.size w) _).mono (by omega)
    have hB2 : Below G w w2 := hB1.grown HGR.out (by simp; omega) (fun b e => by have := (HG.out.own.lt b e).1; omega)
    exact hB2.setCell (p := ⟨G, 1, none⟩) (Nat.le_refl _) _
  · intro b T cur hb hT hA
    exact ((hA.stays (bl_alloc (Below.refl _ _) _)).grown HGR.out (own_typed HA.out.own (hA.stays (bl_alloc (Below.refl _ _) _)) hT)).other (p := ⟨G, 1, none⟩) hb _
end Go.Proofs.Ytigliglmejkakaa
