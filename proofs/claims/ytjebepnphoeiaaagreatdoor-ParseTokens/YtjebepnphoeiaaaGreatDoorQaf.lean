/- Pieces: GrC. -/
import Derived.Test.YtjebepnphoeiaaaGreatDoorQae
import Derived.OwnWalk
import Derived.Laws.OwnMore
import Derived.Maps.AppendAt
import Derived.BigQuiet
namespace Go.Proofs.YtjebepnphoeiaaaGreatDoor
open Go.RowKit
set_option linter.unusedVariables false

theorem gr_info_string : (Tryz.prog.info? 9).map (fun i => (i.zero, i.size, i.bytes)) = some (some (.string ⟨#[]⟩), 1, 16) := by kernel_rfl
def Gr.PAns (B S : Nat) (w : World) (R : Gr.PRes) (e : Ending) (w' : World) : Prop := match R with
 | .ok p low r => (∃ v, e = .returned (.tuple #[v, .int .i64 (if low = true then 1 else 2)]) ∧ Tx w' (Ge w.heap.size) v p ∧ (∀ x, x ∈ p → x.size ≤ maxLen) ∧ p.length ≤ maxLen) ∧ Rd w' B S r ∧ Bes B w w'
 | .bad r c => e = .panicked [Gr.pe (Gr.place S r) c] ∧ (∃ ts', Rd w' B S ts') ∧ Bes B w w'

theorem Gr.path_no {lo up : Bool} {first ts : Gr.Ts} {k : Nat} {acc : List ByteArray} (h : (decide (Gr.kd ts = 2) || (lo && decide (Gr.kd ts = 1))) = false) : Gr.path lo up first k ts acc = .bad ts 11 := by
 unfold Gr.path; rw [if_pos h]
theorem Gr.path_big {lo up : Bool} {first ts : Gr.Ts} {acc : List ByteArray} (h : (decide (Gr.kd ts = 2) || (lo && decide (Gr.kd ts = 1))) = true) : Gr.path lo up first 0 ts acc = .bad first 3 := by
 unfold Gr.path; rw [if_neg (by rw [h]; simp)]
theorem Gr.path_on {lo up : Bool} {first ts : Gr.Ts} {k : Nat} {acc : List ByteArray} (h : Gr.kd ts = 2) (hd : Gr.isT [46] ts.tail = true) : Gr.path lo up first (k + 1) ts acc = Gr.path lo up first k ts.tail.tail (acc ++ [Gr.hd ts]) := by
 rw [Gr.path, h]; simp [hd]
theorem Gr.path_end {lo up : Bool} {first ts : Gr.Ts} {k : Nat} {acc : List ByteArray} (h : Gr.kd ts = 2) (hd : Gr.isT [46] ts.tail = false) : Gr.path lo up first (k + 1) ts acc = if up = true then .ok (acc ++ [Gr.hd ts]) false ts.tail else .bad ts.tail 11 := by
 rw [Gr.path, h]; simp [hd]
theorem Gr.path_low {up : Bool} {first ts : Gr.Ts} {k : Nat} {acc : List ByteArray} (h : Gr.kd ts = 1) : Gr.path true up first (k + 1) ts acc = .ok (acc ++ [Gr.hd ts]) true ts.tail := by
 rw [Gr.path, h]; simp

set_option maxHeartbeats 8000000 in
set_option maxRecDepth 100000 in
theorem gr_path (lo up : Bool) (w : World) (B S : Nat) (ts : Gr.Ts) (h : Rd w B S ts) (lb n : Nat) (zs : List Int) (hlb : lb < w.heap.size) (hlB : lb ≠ B) (hn : zs.length = n) (hn2 : n ≤ 2) (hz : ∀ j, j < zs.length → w.cell? ⟨lb, 0 + j, none⟩ = some (.int .i64 (zs.getD j 0)))
  (hzs : ∀ k : Nat, zs.contains (k : Int) = ((lo && decide (k = 1)) || (up && decide (k = 2)))) :
  Calls Tryz.prog 152 #[.pointer (some ⟨B, 0, none⟩), .slice (some ⟨lb, 0, none⟩) n n] w (Gr.PAns B S w (Gr.path lo up ts 8 ts [])) := by
 obtain ⟨i0, hi, hz0, hz1, hz2⟩ := info_parts gr_info_string
 have qp : Hid (Calls Tryz.prog 114 #[.pointer (some ⟨B, 0, none⟩)] w fun e w' => e = .returned (.int .i64 (Gr.place S ts)) ∧ w' = w) := gr_place w B S ts h
 have hp := pn_all
 have HR : Hid (Rd w B S ts) := h
 have hBlt := h.lt
 have HC : Hid (∀ W, Bes B w W → ∀ k : Nat, Calls Tryz.prog 219 #[.slice (some ⟨lb, 0, none⟩) n n, .int .i64 (k : Int)] W fun e w' => e = .returned (.bool ((lo && decide (k = 1)) || (up && decide (k = 2)))) ∧ w' = W) := fun W hW k => by
  rw [← hzs k]
  have := Tryz.slices_Contains_int lb 0 n n zs (k : Int) W (by omega) (by omega) (fun j hj => (hW.cell hlb hlB).trans (hz j hj))
  rw [← hn, List.take_length] at this
  rw [← hn]
  exact this
 clear h hz hzs hn
 go_enter Tryz.func152, Tryz.ntmps152
 go_wp2_with (go_at_call 114; refine qp.out.mono ?_; rintro e w1 ⟨rfl, hw1⟩; rw [hw1]; clear hw1 w1)
 generalize HP : Gr.place S ts = P at *
 go_loopw [7] (fun v wr => ∃ (k : Nat) (us : Gr.Ts) (acc : List ByteArray), Hid (Gr.path lo up ts 8 ts [] = Gr.path lo up ts k us acc) ∧ acc.length + k = 8 ∧ (∀ x, x ∈ acc → x.size ≤ maxLen) ∧ wr.ownsRow w.heap.size 9 1 v acc.length (acc.map Value.string) ∧ Rd wr B S us ∧ Bes B w wr) (fun v _ => 9 - (match v with | .slice _ n _ => n | _ => 0))
 case atStart => exact ⟨8, ts, [], rfl, rfl, (fun x hx => by cases hx), World.ownsRow_nil _ _ _ _, HR, Bes.refl _ _⟩
 case round =>
  obtain ⟨k, us, acc, hH, hlen, hacc, hrow0, hRd0, hBes⟩ := hrel
  have hRd : Hid (Rd wr B S us) := hRd0
  have hrow : Hid (wr.ownsRow w.heap.size 9 1 _ acc.length (acc.map Value.string)) := hrow0
  obtain ⟨sa, sc, hsf⟩ := own_shape hrow0
  subst hsf
  have qn0 := gr_next wr B S us hRd0
  obtain ⟨K, hK⟩ : ∃ K : Int, (Gr.kd us : Int) = K := ⟨_, rfl⟩
  obtain ⟨T, hT⟩ : ∃ T : ByteArray, Gr.hd us = T := ⟨_, rfl⟩
  obtain ⟨n1, hn1⟩ : ∃ K : Int, (Gr.hn us : Int) = K := ⟨_, rfl⟩
  obtain ⟨n2, hn2⟩ : ∃ K : Int, Gr.at0 S us = K := ⟨_, rfl⟩
  obtain ⟨nz, hnz⟩ : ∃ b : Bool, decide (us ≠ []) = b := ⟨_, rfl⟩
  have qn : Hid (Calls Tryz.prog 63 #[.pointer (some ⟨B, 0, none⟩)] wr fun e w' => e = .returned (.tuple #[.agg #[.int .i64 K, .string T, .int .i64 n1, .int .i64 n2], .bool nz]) ∧ Below wr.heap.size wr w') := by rw [← hK, ← hT, ← hn1, ← hn2, ← hnz]; exact qn0
  obtain ⟨E, hE⟩ : ∃ E : Bool, ((lo && decide (Gr.kd us = 1)) || (up && decide (Gr.kd us = 2))) = E := ⟨_, rfl⟩
  have hc : Hid (∀ W, Bes B w W → Calls Tryz.prog 219 #[.slice (some ⟨lb, 0, none⟩) n n, .int .i64 K] W fun e w' => e = .returned (.bool E) ∧ w' = W) := fun W hW => by rw [← hK, ← hE]; exact HC.out W hW _
  clear hRd0 hrow0 qn0 hn1 hn2 hnz
  by_cases hgo : (decide (Gr.kd us = 2) || (lo && decide (Gr.kd us = 1))) = false
  ·
   have HX : Hid (Gr.path lo up ts 8 ts [] = .bad us 11) := by show _ = _; rw [hH.out, Gr.path_no hgo]
   have e2 : ¬ K = 2 := by intro e; rw [show Gr.kd us = 2 by omega] at hgo; simp at hgo
   have e2b : (K == 2) = false := by rw [beq_eq_false_iff_ne]; exact e2
   have e2c : (K != 2) = true := by rw [bne, e2b]; rfl
   obtain rfl : E = false := by
    rw [Bool.or_eq_false_iff] at hgo
    rw [← hE, hgo.1, hgo.2]; simp
   clear hgo hH hE hK hT
   go_wp2_with (first | (go_at_call 63; refine qn.out.mono ?_; rintro e w1 ⟨rfl, hb1⟩) | (go_at_call 219; refine (hc.out _ (hBes.below (bl_alloc hb1 _))).mono ?_; rintro e w2 ⟨rfl, hw2⟩; rw [hw2]; clear hw2 w2) | (go_at_call 85; refine (gr_giveUp _ B S us (hRd.out.below (bl_alloc hb1 _))).mono ?_; rintro e w2 ⟨rfl, hw2⟩; rw [hw2]; clear hw2 w2))
   refine ⟨rfl, ?_⟩
   rw [HX.out]
   exact ⟨rfl, ⟨_, hRd.out.below (bl_alloc hb1 _)⟩, hBes.below (bl_alloc hb1 _)⟩
  ·
   have hgo1 : (decide (Gr.kd us = 2) || (lo && decide (Gr.kd us = 1))) = true := by rw [Bool.not_eq_false] at hgo; exact hgo
   clear hgo
   cases us with
   | nil => simp [Gr.kd] at hgo1
   | cons t r =>
    have htok := hRd.out.ok t (List.mem_cons_self ..)
    have htl : T.size ≤ maxLen := by
     rw [← hT]
     show (Gr.tx t).size ≤ maxLen
     have := htok.len
     show t.text.toArray.size ≤ maxLen
     rw [List.size_toArray]; unfold maxLen; omega
    have hacc2 : Hid (∀ x, x ∈ acc ++ [T] → x.size ≤ maxLen) := fun x hx => by
     rcases List.mem_append.1 hx with h1 | h1
     ·
      exact hacc x h1
     ·
      rw [List.mem_singleton] at h1; rw [h1]; exact htl
    have hmap : Hid (∀ (v : Value) (W : World), W.ownsRow w.heap.size 9 1 v (acc.length + 1) (acc.map Value.string ++ [.string T]) → W.ownsRow w.heap.size 9 1 v (acc ++ [T]).length ((acc ++ [T]).map Value.string)) := fun v W h => by
     rw [List.map_append, List.length_append]; exact h
    clear htok htl hacc
    have HPL : Gr.kd (t :: r) = 2 ∨ (lo = true ∧ Gr.kd (t :: r) = 1) := by
     rw [Bool.or_eq_true, Bool.and_eq_true, decide_eq_true_iff, decide_eq_true_iff] at hgo1
     exact hgo1
    cases k with
    | zero =>
     have HX : Hid (Gr.path lo up ts 8 ts [] = .bad ts 3) := by show _ = _; rw [hH.out, Gr.path_big hgo1]
     have h8 : (8 : Int) < (acc.length : Int) + 1 := by omega
     clear hH hgo1 hT
     rcases HPL with h2 | ⟨h1, h2⟩
     ·
      obtain rfl : K = 2 := by omega
      clear hE hK h2
      go_wp2_with (first | (go_at_call 63; refine qn.out.mono ?_; rintro e w1 ⟨rfl, hb1⟩) | (go_at_call 219; refine (hc.out _ (hBes.below (bl_alloc hb1 _))).mono ?_; rintro e w2 ⟨rfl, hw2⟩; rw [hw2]; clear hw2 w2) | (go_at_call 105; refine (gr_step _ B S t r (hRd.out.below (bl_alloc hb1 _))).mono ?_; rintro e w2 ⟨rfl, hR2, hB2⟩; have hlt1 : B < w1.heap.size := (by have := hb1.size; have := hBes.size; omega); have x0 : w2.cell? ⟨w1.heap.size, 0, none⟩ = some (.int .i64 2) := (hB2.cell (by simp) (by simp; omega)).trans (by simp [go_sem]); have x1 : w2.cell? ⟨w1.heap.size, 1, none⟩ = some (.string T) := (hB2.cell (by simp) (by simp; omega)).trans (by simp [go_sem]); have hBes2 : Bes B w w2 := (hBes.below (bl_alloc hb1 _)).trans hB2; have hrow2 := own_bes (hrow.out) ((Bes.of_below (bl_alloc hb1 _)).trans hB2) hBlt; have hlt2 : w1.heap.size < w2.heap.size := (by have := hB2.size; simp at this; omega)) | (at_builtin; refine wpList_append_own _ rfl _ _ 22 rfl w.heap.size 9 i0 (.string ⟨#[]⟩) 1 16 Tryz.underlying22 hi hz0 hz1 hz2 rfl (by decide) _ _ _ rfl (hrow2.alloc _) ⟨w2.heap.size, 0, none⟩ 1 1 [.string T] rfl rfl (cell_one_new _ _ _) (by simp [Value.oneCell']) (by unfold maxLen; omega) (by omega) (by have := hBes2.size; simp; omega) ?_; intro v' w3 hown' hgrow _; have y0 : w3.cell? ⟨w1.heap.size, 0, none⟩ = some (.int .i64 2) := hgrow.cell (by simp [go_sem, hlt2, x0]) (own_new hrow.out (by have := hb1.size; omega)); obtain ⟨va, vc, hvf⟩ := own_shape hown'; subst hvf; have hR3 : Hid (Rd w3 B S r) := (hR2.alloc _).grown hgrow (fun j ej => by have := own_row hrow2 j ej; omega); have hBes3 : Bes B w w3 := (hBes2.alloc _).grown hgrow (own_row hrow2); have hOwn : Hid (w3.ownsRow w.heap.size 9 1 (.slice va (acc.length + 1) vc) (acc.length + 1) (acc.map Value.string ++ [.string T])) := hown'; have hlt3 : w1.heap.size < w3.heap.size := (by have := hgrow.size; simp at this; omega); clear hown' hgrow))
      refine ⟨rfl, ?_⟩
      rw [HX.out]
      exact ⟨by rw [HP]; rfl, ⟨_, hR3.out⟩, hBes3⟩
     ·
      obtain rfl : K = 1 := by omega
      obtain rfl : E = true := by rw [← hE, h1, h2]; rfl
      clear hE hK h2
      go_wp2_with (first | (go_at_call 63; refine qn.out.mono ?_; rintro e w1 ⟨rfl, hb1⟩) | (go_at_call 219; refine (hc.out _ (hBes.below (bl_alloc hb1 _))).mono ?_; rintro e w2 ⟨rfl, hw2⟩; rw [hw2]; clear hw2 w2) | (go_at_call 105; refine (gr_step _ B S t r (hRd.out.below (bl_alloc hb1 _))).mono ?_; rintro e w2 ⟨rfl, hR2, hB2⟩; have hlt1 : B < w1.heap.size := (by have := hb1.size; have := hBes.size; omega); have x0 : w2.cell? ⟨w1.heap.size, 0, none⟩ = some (.int .i64 1) := (hB2.cell (by simp) (by simp; omega)).trans (by simp [go_sem]); have x1 : w2.cell? ⟨w1.heap.size, 1, none⟩ = some (.string T) := (hB2.cell (by simp) (by simp; omega)).trans (by simp [go_sem]); have hBes2 : Bes B w w2 := (hBes.below (bl_alloc hb1 _)).trans hB2; have hrow2 := own_bes (hrow.out) ((Bes.of_below (bl_alloc hb1 _)).trans hB2) hBlt; have hlt2 : w1.heap.size < w2.heap.size := (by have := hB2.size; simp at this; omega)) | (at_builtin; refine wpList_append_own _ rfl _ _ 22 rfl w.heap.size 9 i0 (.string ⟨#[]⟩) 1 16 Tryz.underlying22 hi hz0 hz1 hz2 rfl (by decide) _ _ _ rfl (hrow2.alloc _) ⟨w2.heap.size, 0, none⟩ 1 1 [.string T] rfl rfl (cell_one_new _ _ _) (by simp [Value.oneCell']) (by unfold maxLen; omega) (by omega) (by have := hBes2.size; simp; omega) ?_; intro v' w3 hown' hgrow _; have y0 : w3.cell? ⟨w1.heap.size, 0, none⟩ = some (.int .i64 1) := hgrow.cell (by simp [go_sem, hlt2, x0]) (own_new hrow.out (by have := hb1.size; omega)); obtain ⟨va, vc, hvf⟩ := own_shape hown'; subst hvf; have hR3 : Hid (Rd w3 B S r) := (hR2.alloc _).grown hgrow (fun j ej => by have := own_row hrow2 j ej; omega); have hBes3 : Bes B w w3 := (hBes2.alloc _).grown hgrow (own_row hrow2); have hOwn : Hid (w3.ownsRow w.heap.size 9 1 (.slice va (acc.length + 1) vc) (acc.length + 1) (acc.map Value.string ++ [.string T])) := hown'; have hlt3 : w1.heap.size < w3.heap.size := (by have := hgrow.size; simp at this; omega); clear hown' hgrow))
      refine ⟨rfl, ?_⟩
      rw [HX.out]
      exact ⟨by rw [HP]; rfl, ⟨_, hR3.out⟩, hBes3⟩
    | succ k =>
     have h8 : ¬ ((8 : Int) < (acc.length : Int) + 1) := by omega
     have hl9 : Hid (acc.length + (k + 1) = 8) := hlen
     have hl7 : acc.length ≤ 7 := by omega
     clear hgo1 hlen
     rcases HPL with h2 | ⟨h1, h2⟩
     ·
      obtain rfl : K = 2 := by omega
      cases hdot : Gr.isT [46] r with
      | true =>
       have HX : Hid (Gr.path lo up ts 8 ts [] = Gr.path lo up ts k r.tail (acc ++ [T])) := by show _ = _; rw [hH.out, Gr.path_on h2 hdot, hT]; rfl
       clear hE hK h2 hH hT
       go_wp2_with (first | (go_at_call 63; refine qn.out.mono ?_; rintro e w1 ⟨rfl, hb1⟩) | (go_at_call 219; refine (hc.out _ (hBes.below (bl_alloc hb1 _))).mono ?_; rintro e w2 ⟨rfl, hw2⟩; rw [hw2]; clear hw2 w2) | (go_at_call 105; refine (gr_step _ B S t r (hRd.out.below (bl_alloc hb1 _))).mono ?_; rintro e w2 ⟨rfl, hR2, hB2⟩; have hlt1 : B < w1.heap.size := (by have := hb1.size; have := hBes.size; omega); have x0 : w2.cell? ⟨w1.heap.size, 0, none⟩ = some (.int .i64 2) := (hB2.cell (by simp) (by simp; omega)).trans (by simp [go_sem]); have x1 : w2.cell? ⟨w1.heap.size, 1, none⟩ = some (.string T) := (hB2.cell (by simp) (by simp; omega)).trans (by simp [go_sem]); have hBes2 : Bes B w w2 := (hBes.below (bl_alloc hb1 _)).trans hB2; have hrow2 := own_bes (hrow.out) ((Bes.of_below (bl_alloc hb1 _)).trans hB2) hBlt; have hlt2 : w1.heap.size < w2.heap.size := (by have := hB2.size; simp at this; omega)) | (at_builtin; refine wpList_append_own _ rfl _ _ 22 rfl w.heap.size 9 i0 (.string ⟨#[]⟩) 1 16 Tryz.underlying22 hi hz0 hz1 hz2 rfl (by decide) _ _ _ rfl (hrow2.alloc _) ⟨w2.heap.size, 0, none⟩ 1 1 [.string T] rfl rfl (cell_one_new _ _ _) (by simp [Value.oneCell']) (by unfold maxLen; omega) (by omega) (by have := hBes2.size; simp; omega) ?_; intro v' w3 hown' hgrow _; have y0 : w3.cell? ⟨w1.heap.size, 0, none⟩ = some (.int .i64 2) := hgrow.cell (by simp [go_sem, hlt2, x0]) (own_new hrow.out (by have := hb1.size; omega)); obtain ⟨va, vc, hvf⟩ := own_shape hown'; subst hvf; have hR3 : Hid (Rd w3 B S r) := (hR2.alloc _).grown hgrow (fun j ej => by have := own_row hrow2 j ej; omega); have hBes3 : Bes B w w3 := (hBes2.alloc _).grown hgrow (own_row hrow2); have hOwn : Hid (w3.ownsRow w.heap.size 9 1 (.slice va (acc.length + 1) vc) (acc.length + 1) (acc.map Value.string ++ [.string T])) := hown'; have hlt3 : w1.heap.size < w3.heap.size := (by have := hgrow.size; simp at this; omega); clear hown' hgrow) | (go_at_call 53; refine (gr_take _ B S r hR3.out ⟨#[46]⟩ _ hdot).mono ?_; rintro e w4 ⟨rfl, hR4, hB4⟩; have z0 : w4.cell? ⟨w1.heap.size, 0, none⟩ = some (.int .i64 2) := (hB4.cell hlt3 (by simp; omega)).trans y0))
       go_roundw
       case rel => exact ⟨k, r.tail, acc ++ [T], HX, by rw [List.length_append]; have := hl9.out; simp; omega, hacc2.out, own_bes (hmap.out _ _ hOwn.out) hB4 hBlt, hR4, hBes3.trans hB4⟩
       case measure => simp; omega
      | false =>
       have HX : Hid (Gr.path lo up ts 8 ts [] = if up = true then .ok (acc ++ [T]) false r else .bad r 11) := by show _ = _; rw [hH.out, Gr.path_end h2 hdot, hT]; rfl
       cases up with
       | true =>
        obtain rfl : E = true := by rw [← hE, h2]; simp
        clear hE hK h2 hH hT
        go_wp2_with (first | (go_at_call 63; refine qn.out.mono ?_; rintro e w1 ⟨rfl, hb1⟩) | (go_at_call 219; refine (hc.out _ (hBes.below (bl_alloc hb1 _))).mono ?_; rintro e w2 ⟨rfl, hw2⟩; rw [hw2]; clear hw2 w2) | (go_at_call 105; refine (gr_step _ B S t r (hRd.out.below (bl_alloc hb1 _))).mono ?_; rintro e w2 ⟨rfl, hR2, hB2⟩; have hlt1 : B < w1.heap.size := (by have := hb1.size; have := hBes.size; omega); have x0 : w2.cell? ⟨w1.heap.size, 0, none⟩ = some (.int .i64 2) := (hB2.cell (by simp) (by simp; omega)).trans (by simp [go_sem]); have x1 : w2.cell? ⟨w1.heap.size, 1, none⟩ = some (.string T) := (hB2.cell (by simp) (by simp; omega)).trans (by simp [go_sem]); have hBes2 : Bes B w w2 := (hBes.below (bl_alloc hb1 _)).trans hB2; have hrow2 := own_bes (hrow.out) ((Bes.of_below (bl_alloc hb1 _)).trans hB2) hBlt; have hlt2 : w1.heap.size < w2.heap.size := (by have := hB2.size; simp at this; omega)) | (at_builtin; refine wpList_append_own _ rfl _ _ 22 rfl w.heap.size 9 i0 (.string ⟨#[]⟩) 1 16 Tryz.underlying22 hi hz0 hz1 hz2 rfl (by decide) _ _ _ rfl (hrow2.alloc _) ⟨w2.heap.size, 0, none⟩ 1 1 [.string T] rfl rfl (cell_one_new _ _ _) (by simp [Value.oneCell']) (by unfold maxLen; omega) (by omega) (by have := hBes2.size; simp; omega) ?_; intro v' w3 hown' hgrow _; have y0 : w3.cell? ⟨w1.heap.size, 0, none⟩ = some (.int .i64 2) := hgrow.cell (by simp [go_sem, hlt2, x0]) (own_new hrow.out (by have := hb1.size; omega)); obtain ⟨va, vc, hvf⟩ := own_shape hown'; subst hvf; have hR3 : Hid (Rd w3 B S r) := (hR2.alloc _).grown hgrow (fun j ej => by have := own_row hrow2 j ej; omega); have hBes3 : Bes B w w3 := (hBes2.alloc _).grown hgrow (own_row hrow2); have hOwn : Hid (w3.ownsRow w.heap.size 9 1 (.slice va (acc.length + 1) vc) (acc.length + 1) (acc.map Value.string ++ [.string T])) := hown'; have hlt3 : w1.heap.size < w3.heap.size := (by have := hgrow.size; simp at this; omega); clear hown' hgrow) | (go_at_call 53; refine (gr_take _ B S r hR3.out ⟨#[46]⟩ _ hdot).mono ?_; rintro e w4 ⟨rfl, hR4, hB4⟩; have z0 : w4.cell? ⟨w1.heap.size, 0, none⟩ = some (.int .i64 2) := (hB4.cell hlt3 (by simp; omega)).trans y0))
        go_region
        all_goals
         go_wp2
         go_ret2
         rw [HX.out]
         exact ⟨⟨_, rfl, Tx.own (hmap.out _ _ (own_bes hOwn.out hB4.drew hBlt)), hacc2.out, by rw [List.length_append]; unfold maxLen; simp; omega⟩, hR4.below (Below.refl _ _).drew, (hBes3.trans hB4).drew⟩
       | false =>
        obtain rfl : E = false := by rw [← hE, h2]; simp
        clear hE hK h2 hH hT
        go_wp2_with (first | (go_at_call 63; refine qn.out.mono ?_; rintro e w1 ⟨rfl, hb1⟩) | (go_at_call 219; refine (hc.out _ (hBes.below (bl_alloc hb1 _))).mono ?_; rintro e w2 ⟨rfl, hw2⟩; rw [hw2]; clear hw2 w2) | (go_at_call 105; refine (gr_step _ B S t r (hRd.out.below (bl_alloc hb1 _))).mono ?_; rintro e w2 ⟨rfl, hR2, hB2⟩; have hlt1 : B < w1.heap.size := (by have := hb1.size; have := hBes.size; omega); have x0 : w2.cell? ⟨w1.heap.size, 0, none⟩ = some (.int .i64 2) := (hB2.cell (by simp) (by simp; omega)).trans (by simp [go_sem]); have x1 : w2.cell? ⟨w1.heap.size, 1, none⟩ = some (.string T) := (hB2.cell (by simp) (by simp; omega)).trans (by simp [go_sem]); have hBes2 : Bes B w w2 := (hBes.below (bl_alloc hb1 _)).trans hB2; have hrow2 := own_bes (hrow.out) ((Bes.of_below (bl_alloc hb1 _)).trans hB2) hBlt; have hlt2 : w1.heap.size < w2.heap.size := (by have := hB2.size; simp at this; omega)) | (at_builtin; refine wpList_append_own _ rfl _ _ 22 rfl w.heap.size 9 i0 (.string ⟨#[]⟩) 1 16 Tryz.underlying22 hi hz0 hz1 hz2 rfl (by decide) _ _ _ rfl (hrow2.alloc _) ⟨w2.heap.size, 0, none⟩ 1 1 [.string T] rfl rfl (cell_one_new _ _ _) (by simp [Value.oneCell']) (by unfold maxLen; omega) (by omega) (by have := hBes2.size; simp; omega) ?_; intro v' w3 hown' hgrow _; have y0 : w3.cell? ⟨w1.heap.size, 0, none⟩ = some (.int .i64 2) := hgrow.cell (by simp [go_sem, hlt2, x0]) (own_new hrow.out (by have := hb1.size; omega)); obtain ⟨va, vc, hvf⟩ := own_shape hown'; subst hvf; have hR3 : Hid (Rd w3 B S r) := (hR2.alloc _).grown hgrow (fun j ej => by have := own_row hrow2 j ej; omega); have hBes3 : Bes B w w3 := (hBes2.alloc _).grown hgrow (own_row hrow2); have hOwn : Hid (w3.ownsRow w.heap.size 9 1 (.slice va (acc.length + 1) vc) (acc.length + 1) (acc.map Value.string ++ [.string T])) := hown'; have hlt3 : w1.heap.size < w3.heap.size := (by have := hgrow.size; simp at this; omega); clear hown' hgrow) | (go_at_call 53; refine (gr_take _ B S r hR3.out ⟨#[46]⟩ _ hdot).mono ?_; rintro e w4 ⟨rfl, hR4, hB4⟩; have z0 : w4.cell? ⟨w1.heap.size, 0, none⟩ = some (.int .i64 2) := (hB4.cell hlt3 (by simp; omega)).trans y0) | (go_at_call 85; refine (gr_giveUp _ B S r hR4).mono ?_; rintro e w5 ⟨rfl, hw5⟩; rw [hw5]; clear hw5 w5))
        refine ⟨rfl, ?_⟩
        rw [HX.out]
        exact ⟨rfl, ⟨_, hR4⟩, hBes3.trans hB4⟩
     ·
      obtain rfl : K = 1 := by omega
      obtain rfl : E = true := by rw [← hE, h1, h2]; rfl
      subst h1
      have HX : Hid (Gr.path true up ts 8 ts [] = .ok (acc ++ [T]) true r) := by show _ = _; rw [hH.out, Gr.path_low h2, hT]; rfl
      clear hE hK h2 hH hT
      go_wp2_with (first | (go_at_call 63; refine qn.out.mono ?_; rintro e w1 ⟨rfl, hb1⟩) | (go_at_call 219; refine (hc.out _ (hBes.below (bl_alloc hb1 _))).mono ?_; rintro e w2 ⟨rfl, hw2⟩; rw [hw2]; clear hw2 w2) | (go_at_call 105; refine (gr_step _ B S t r (hRd.out.below (bl_alloc hb1 _))).mono ?_; rintro e w2 ⟨rfl, hR2, hB2⟩; have hlt1 : B < w1.heap.size := (by have := hb1.size; have := hBes.size; omega); have x0 : w2.cell? ⟨w1.heap.size, 0, none⟩ = some (.int .i64 1) := (hB2.cell (by simp) (by simp; omega)).trans (by simp [go_sem]); have x1 : w2.cell? ⟨w1.heap.size, 1, none⟩ = some (.string T) := (hB2.cell (by simp) (by simp; omega)).trans (by simp [go_sem]); have hBes2 : Bes B w w2 := (hBes.below (bl_alloc hb1 _)).trans hB2; have hrow2 := own_bes (hrow.out) ((Bes.of_below (bl_alloc hb1 _)).trans hB2) hBlt; have hlt2 : w1.heap.size < w2.heap.size := (by have := hB2.size; simp at this; omega)) | (at_builtin; refine wpList_append_own _ rfl _ _ 22 rfl w.heap.size 9 i0 (.string ⟨#[]⟩) 1 16 Tryz.underlying22 hi hz0 hz1 hz2 rfl (by decide) _ _ _ rfl (hrow2.alloc _) ⟨w2.heap.size, 0, none⟩ 1 1 [.string T] rfl rfl (cell_one_new _ _ _) (by simp [Value.oneCell']) (by unfold maxLen; omega) (by omega) (by have := hBes2.size; simp; omega) ?_; intro v' w3 hown' hgrow _; have y0 : w3.cell? ⟨w1.heap.size, 0, none⟩ = some (.int .i64 1) := hgrow.cell (by simp [go_sem, hlt2, x0]) (own_new hrow.out (by have := hb1.size; omega)); obtain ⟨va, vc, hvf⟩ := own_shape hown'; subst hvf; have hR3 : Hid (Rd w3 B S r) := (hR2.alloc _).grown hgrow (fun j ej => by have := own_row hrow2 j ej; omega); have hBes3 : Bes B w w3 := (hBes2.alloc _).grown hgrow (own_row hrow2); have hOwn : Hid (w3.ownsRow w.heap.size 9 1 (.slice va (acc.length + 1) vc) (acc.length + 1) (acc.map Value.string ++ [.string T])) := hown'; have hlt3 : w1.heap.size < w3.heap.size := (by have := hgrow.size; simp at this; omega); clear hown' hgrow))
      go_region
      all_goals
       go_wp2
       go_ret2
       rw [HX.out]
       exact ⟨⟨_, rfl, Tx.own (hmap.out _ _ (own_bes hOwn.out (Bes.refl B _).drew hBlt)), hacc2.out, by rw [List.length_append]; unfold maxLen; simp; omega⟩, hR3.out.below (Below.refl _ _).drew, hBes3.drew⟩

end Go.Proofs.YtjebepnphoeiaaaGreatDoor
