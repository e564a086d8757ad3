/- Pieces: GrC GrD GrQ. -/
import Derived.Test.YtjebepnphoeiaabGreatDoorQai
import Derived.OwnWalk
import Derived.Laws.OwnMore
import Derived.Maps.AppendAt
import Derived.BigQuiet
import Derived.Test.YtjebepnphoeiaabGreatDoorQah
namespace Go.Proofs.YtjebepnphoeiaabGreatDoor
open Go.RowKit
set_option linter.unusedVariables false

theorem gr_info_string : (Tryz.prog.info? 9).map (fun i => (i.zero, i.size, i.bytes)) = some (some (.string ⟨#[]⟩), 1, 16) := by kernel_rfl
def Gr.PAns (B S : Nat) (w : World) (R : Gr.PRes) (e : Ending) (w' : World) : Prop := match R with
 | .ok p low r => (∃ v, e = .returned (.tuple #[v, .int .i64 (if low = true then 1 else 2)]) ∧ Tx w' (Ge w.heap.size) v p ∧ (∀ x, x ∈ p → x.size ≤ maxLen) ∧ p.length ≤ maxLen) ∧ Rd w' B S r ∧ Bes B w w'
 | .bad r c => e = .panicked [Gr.pe (Gr.place S r) c] ∧ (∃ ts', Rd w' B S ts') ∧ Bes B w w'

theorem Gr.path_no {lo up : Bool} {first ts : Gr.Ts} {k : Nat} {acc : List ByteArray} (h : (decide (Gr.kd ts = 2) || (lo && decide (Gr.kd ts = 1))) = false) : Gr.path lo up first k ts acc = .bad ts 11 := by
 unfold Gr.path; rw [if_pos h]
theorem Gr.path_big {lo up : Bool} {first ts : Gr.Ts} {acc : List ByteArray} (h : (decide (Gr.kd ts = 2) || (lo && decide (Gr.kd ts = 1))) = true) : Gr.path lo up first 0 ts acc = .bad first 3 := by
 unfold Gr.path; rw [if_neg (by rw [h]; simp)]
theorem Gr.path_on {lo up : Bool} {first ts : Gr.Ts} {k : Nat} {acc : List ByteArray} (h : Gr.kd ts = 2) (hd : Gr.isT [46] ts.tail = true) : Gr.path lo up first (k + 1) ts acc = Gr.path lo up first k ts.tail.tail (acc ++ [Gr.hd ts]) := by
 rw [Gr.path, h]; simp [hd]
theorem Gr.path_end {lo up : Bool} {first ts : Gr.Ts} {k : Nat} {acc : List ByteArray} (h : Gr.kd ts = 2) (hd : Gr.isT [46] ts.tail = false) : Gr.path lo up first (k + 1) ts acc = if up = true then .ok (acc ++ [Gr.hd ts]) false ts.tail else .bad ts.tail 11 := by
 rw [Gr.path, h]; simp [hd]
theorem Gr.path_low {up : Bool} {first ts : Gr.Ts} {k : Nat} {acc : List ByteArray} (h : Gr.kd ts = 1) : Gr.path true up first (k + 1) ts acc = .ok (acc ++ [Gr.hd ts]) true ts.tail := by
 rw [Gr.path, h]; simp

set_option maxHeartbeats 8000000 in
set_option maxRecDepth 100000 in
theorem gr_path (lo up : Bool) (w : World) (B S : Nat) (ts : Gr.Ts) (h : Rd w B S ts) (lb n : Nat) (zs : List Int) (hlb : lb < w.heap.size) (hlB : lb ≠ B) (hn : zs.length = n) (hn2 : n ≤ 2) (hz : ∀ j, j < zs.length → w.cell? ⟨lb, 0 + j, none⟩ = some (.int .i64 (zs.getD j 0)))
  (hzs : ∀ k : Nat, zs.contains (k : Int) = ((lo && decide (k = 1)) || (up && decide (k = 2)))) :
  Calls Tryz.prog 63 #[.pointer (some ⟨B, 0, none⟩), .slice (some ⟨lb, 0, none⟩) n n] w (Gr.PAns B S w (Gr.path lo up ts 8 ts [])) := by
 obtain ⟨i0, hi, hz0, hz1, hz2⟩ := info_parts gr_info_string
 have qp : Hid (Calls Tryz.prog 65 #[.pointer (some ⟨B, 0, none⟩)] w fun e w' => e = .returned (.int .i64 (Gr.place S ts)) ∧ w' = w) := gr_place w B S ts h
 have hp := pn_all
 have HR : Hid (Rd w B S ts) := h
 have hBlt := h.lt
 have HC : Hid (∀ W, Bes B w W → ∀ k : Nat, Calls Tryz.prog 99 #[.slice (some ⟨lb, 0, none⟩) n n, .int .i64 (k : Int)] W fun e w' => e = .returned (.bool ((lo && decide (k = 1)) || (up && decide (k = 2)))) ∧ w' = W) := fun W hW k => by
  rw [← hzs k]
  have := Tryz.slices_Contains_int lb 0 n n zs (k : Int) W (by omega) (by omega) (fun j hj => (hW.cell hlb hlB).trans (hz j hj))
  rw [← hn, List.take_length] at this
  rw [← hn]
  exact this
 clear h hz hzs hn
 go_enter Tryz.func63, Tryz.ntmps63
 go_wp2_with (go_at_call 65; refine qp.out.mono ?_; rintro e w1 ⟨rfl, hw1⟩; rw [hw1]; clear hw1 w1)
 generalize HP : Gr.place S ts = P at *
 go_loopw [7] (fun v wr => ∃ (k : Nat) (us : Gr.Ts) (acc : List ByteArray), Hid (Gr.path lo up ts 8 ts [] = Gr.path lo up ts k us acc) ∧ acc.length + k = 8 ∧ (∀ x, x ∈ acc → x.size ≤ maxLen) ∧ wr.ownsRow w.heap.size 9 1 v acc.length (acc.map Value.string) ∧ Rd wr B S us ∧ Bes B w wr) (fun v _ => 9 - (match v with | .slice _ n _ => n | _ => 0))
 case atStart => exact ⟨8, ts, [], rfl, rfl, (fun x hx => by cases hx), World.ownsRow_nil _ _ _ _, HR, Bes.refl _ _⟩
 case round =>
  obtain ⟨k, us, acc, hH, hlen, hacc, hrow0, hRd0, hBes⟩ := hrel
  have hRd : Hid (Rd wr B S us) := hRd0
  have hrow : Hid (wr.ownsRow w.heap.size 9 1 _ acc.length (acc.map Value.string)) := hrow0
  obtain ⟨sa, sc, hsf⟩ := own_shape hrow0
  subst hsf
  have qn0 := gr_next wr B S us hRd0
  obtain ⟨K, hK⟩ : ∃ K : Int, (Gr.kd us : Int) = K := ⟨_, rfl⟩
  obtain ⟨T, hT⟩ : ∃ T : ByteArray, Gr.hd us = T := ⟨_, rfl⟩
  obtain ⟨n1, hn1⟩ : ∃ K : Int, (Gr.hn us : Int) = K := ⟨_, rfl⟩
  obtain ⟨n2, hn2⟩ : ∃ K : Int, Gr.at0 S us = K := ⟨_, rfl⟩
  obtain ⟨nz, hnz⟩ : ∃ b : Bool, decide (us ≠ []) = b := ⟨_, rfl⟩
  have qn : Hid (Calls Tryz.prog 32 #[.pointer (some ⟨B, 0, none⟩)] wr fun e w' => e = .returned (.tuple #[.agg #[.int .i64 K, .string T, .int .i64 n1, .int .i64 n2], .bool nz]) ∧ Below wr.heap.size wr w') := by rw [← hK, ← hT, ← hn1, ← hn2, ← hnz]; exact qn0
  obtain ⟨E, hE⟩ : ∃ E : Bool, ((lo && decide (Gr.kd us = 1)) || (up && decide (Gr.kd us = 2))) = E := ⟨_, rfl⟩
  have hc : Hid (∀ W, Bes B w W → Calls Tryz.prog 99 #[.slice (some ⟨lb, 0, none⟩) n n, .int .i64 K] W fun e w' => e = .returned (.bool E) ∧ w' = W) := fun W hW => by rw [← hK, ← hE]; exact HC.out W hW _
  clear hRd0 hrow0 qn0 hn1 hn2 hnz
  by_cases hgo : (decide (Gr.kd us = 2) || (lo && decide (Gr.kd us = 1))) = false
  ·
   have HX : Hid (Gr.path lo up ts 8 ts [] = .bad us 11) := by show _ = _; rw [hH.out, Gr.path_no hgo]
   have e2 : ¬ K = 2 := by intro e; rw [show Gr.kd us = 2 by omega] at hgo; simp at hgo
   have e2b : (K == 2) = false := by rw [beq_eq_false_iff_ne]; exact e2
   have e2c : (K != 2) = true := by rw [bne, e2b]; rfl
   obtain rfl : E = false := by
    rw [Bool.or_eq_false_iff] at hgo
    rw [← hE, hgo.1, hgo.2]; simp
   clear hgo hH hE hK hT
   go_wp2_with (first | (go_at_call 32; refine qn.out.mono ?_; rintro e w1 ⟨rfl, hb1⟩) | (go_at_call 99; refine (hc.out _ (hBes.below (bl_alloc hb1 _))).mono ?_; rintro e w2 ⟨rfl, hw2⟩; rw [hw2]; clear hw2 w2) | (go_at_call 37; refine (gr_giveUp _ B S us (hRd.out.below (bl_alloc hb1 _))).mono ?_; rintro e w2 ⟨rfl, hw2⟩; rw [hw2]; clear hw2 w2))
   refine ⟨rfl, ?_⟩
   rw [HX.out]
   exact ⟨rfl, ⟨_, hRd.out.below (bl_alloc hb1 _)⟩, hBes.below (bl_alloc hb1 _)⟩
  ·
   have hgo1 : (decide (Gr.kd us = 2) || (lo && decide (Gr.kd us = 1))) = true := by rw [Bool.not_eq_false] at hgo; exact hgo
   clear hgo
   cases us with
   | nil => simp [Gr.kd] at hgo1
   | cons t r =>
    have htok := hRd.out.ok t (List.mem_cons_self ..)
    have htl : T.size ≤ maxLen := by
     rw [← hT]
     show (Gr.tx t).size ≤ maxLen
     have := htok.len
     show t.text.toArray.size ≤ maxLen
     rw [List.size_toArray]; unfold maxLen; omega
    have hacc2 : Hid (∀ x, x ∈ acc ++ [T] → x.size ≤ maxLen) := fun x hx => by
     rcases List.mem_append.1 hx with h1 | h1
     ·
      exact hacc x h1
     ·
      rw [List.mem_singleton] at h1; rw [h1]; exact htl
    have hmap : Hid (∀ (v : Value) (W : World), W.ownsRow w.heap.size 9 1 v (acc.length + 1) (acc.map Value.string ++ [.string T]) → W.ownsRow w.heap.size 9 1 v (acc ++ [T]).length ((acc ++ [T]).map Value.string)) := fun v W h => by
     rw [List.map_append, List.length_append]; exact h
    clear htok htl hacc
    have HPL : Gr.kd (t :: r) = 2 ∨ (lo = true ∧ Gr.kd (t :: r) = 1) := by
     rw [Bool.or_eq_true, Bool.and_eq_true, decide_eq_true_iff, decide_eq_true_iff] at hgo1
     exact hgo1
    cases k with
    | zero =>
     have HX : Hid (Gr.path lo up ts 8 ts [] = .bad ts 3) := by show _ = _; rw [hH.out, Gr.path_big hgo1]
     have h8 : (8 : Int) < (acc.length : Int) + 1 := by omega
     clear hH hgo1 hT
     rcases HPL with h2 | ⟨h1, h2⟩
     ·
      obtain rfl : K = 2 := by omega
      clear hE hK h2
      go_wp2_with (first | (go_at_call 32; refine qn.out.mono ?_; rintro e w1 ⟨rfl, hb1⟩) | (go_at_call 99; refine (hc.out _ (hBes.below (bl_alloc hb1 _))).mono ?_; rintro e w2 ⟨rfl, hw2⟩; rw [hw2]; clear hw2 w2) | (go_at_call 34; refine (gr_step _ B S t r (hRd.out.below (bl_alloc hb1 _))).mono ?_; rintro e w2 ⟨rfl, hR2, hB2⟩; have hlt1 : B < w1.heap.size := (by have := hb1.size; have := hBes.size; omega); have x0 : w2.cell? ⟨w1.heap.size, 0, none⟩ = some (.int .i64 2) := (hB2.cell (by simp) (by simp; omega)).trans (by simp [go_sem]); have x1 : w2.cell? ⟨w1.heap.size, 1, none⟩ = some (.string T) := (hB2.cell (by simp) (by simp; omega)).trans (by simp [go_sem]); have hBes2 : Bes B w w2 := (hBes.below (bl_alloc hb1 _)).trans hB2; have hrow2 := own_bes (hrow.out) ((Bes.of_below (bl_alloc hb1 _)).trans hB2) hBlt; have hlt2 : w1.heap.size < w2.heap.size := (by have := hB2.size; simp at this; omega)) | (at_builtin; refine wpList_append_own _ rfl _ _ 22 rfl w.heap.size 9 i0 (.string ⟨#[]⟩) 1 16 Tryz.underlying22 hi hz0 hz1 hz2 rfl (by decide) _ _ _ rfl (hrow2.alloc _) ⟨w2.heap.size, 0, none⟩ 1 1 [.string T] rfl rfl (cell_one_new _ _ _) (by simp [Value.oneCell']) (by unfold maxLen; omega) (by omega) (by have := hBes2.size; simp; omega) ?_; intro v' w3 hown' hgrow _; have y0 : w3.cell? ⟨w1.heap.size, 0, none⟩ = some (.int .i64 2) := hgrow.cell (by simp [go_sem, hlt2, x0]) (own_new hrow.out (by have := hb1.size; omega)); obtain ⟨va, vc, hvf⟩ := own_shape hown'; subst hvf; have hR3 : Hid (Rd w3 B S r) := (hR2.alloc _).grown hgrow (fun j ej => by have := own_row hrow2 j ej; omega); have hBes3 : Bes B w w3 := (hBes2.alloc _).grown hgrow (own_row hrow2); have hOwn : Hid (w3.ownsRow w.heap.size 9 1 (.slice va (acc.length + 1) vc) (acc.length + 1) (acc.map Value.string ++ [.string T])) := hown'; have hlt3 : w1.heap.size < w3.heap.size := (by have := hgrow.size; simp at this; omega); clear hown' hgrow))
      refine ⟨rfl, ?_⟩
      rw [HX.out]
      exact ⟨by rw [HP]; rfl, ⟨_, hR3.out⟩, hBes3⟩
     ·
      obtain rfl : K = 1 := by omega
      obtain rfl : E = true := by rw [← hE, h1, h2]; rfl
      clear hE hK h2
      go_wp2_with (first | (go_at_call 32; refine qn.out.mono ?_; rintro e w1 ⟨rfl, hb1⟩) | (go_at_call 99; refine (hc.out _ (hBes.below (bl_alloc hb1 _))).mono ?_; rintro e w2 ⟨rfl, hw2⟩; rw [hw2]; clear hw2 w2) | (go_at_call 34; refine (gr_step _ B S t r (hRd.out.below (bl_alloc hb1 _))).mono ?_; rintro e w2 ⟨rfl, hR2, hB2⟩; have hlt1 : B < w1.heap.size := (by have := hb1.size; have := hBes.size; omega); have x0 : w2.cell? ⟨w1.heap.size, 0, none⟩ = some (.int .i64 1) := (hB2.cell (by simp) (by simp; omega)).trans (by simp [go_sem]); have x1 : w2.cell? ⟨w1.heap.size, 1, none⟩ = some (.string T) := (hB2.cell (by simp) (by simp; omega)).trans (by simp [go_sem]); have hBes2 : Bes B w w2 := (hBes.below (bl_alloc hb1 _)).trans hB2; have hrow2 := own_bes (hrow.out) ((Bes.of_below (bl_alloc hb1 _)).trans hB2) hBlt; have hlt2 : w1.heap.size < w2.heap.size := (by have := hB2.size; simp at this; omega)) | (at_builtin; refine wpList_append_own _ rfl _ _ 22 rfl w.heap.size 9 i0 (.string ⟨#[]⟩) 1 16 Tryz.underlying22 hi hz0 hz1 hz2 rfl (by decide) _ _ _ rfl (hrow2.alloc _) ⟨w2.heap.size, 0, none⟩ 1 1 [.string T] rfl rfl (cell_one_new _ _ _) (by simp [Value.oneCell']) (by unfold maxLen; omega) (by omega) (by have := hBes2.size; simp; omega) ?_; intro v' w3 hown' hgrow _; have y0 : w3.cell? ⟨w1.heap.size, 0, none⟩ = some (.int .i64 1) := hgrow.cell (by simp [go_sem, hlt2, x0]) (own_new hrow.out (by have := hb1.size; omega)); obtain ⟨va, vc, hvf⟩ := own_shape hown'; subst hvf; have hR3 : Hid (Rd w3 B S r) := (hR2.alloc _).grown hgrow (fun j ej => by have := own_row hrow2 j ej; omega); have hBes3 : Bes B w w3 := (hBes2.alloc _).grown hgrow (own_row hrow2); have hOwn : Hid (w3.ownsRow w.heap.size 9 1 (.slice va (acc.length + 1) vc) (acc.length + 1) (acc.map Value.string ++ [.string T])) := hown'; have hlt3 : w1.heap.size < w3.heap.size := (by have := hgrow.size; simp at this; omega); clear hown' hgrow))
      refine ⟨rfl, ?_⟩
      rw [HX.out]
      exact ⟨by rw [HP]; rfl, ⟨_, hR3.out⟩, hBes3⟩
    | succ k =>
     have h8 : ¬ ((8 : Int) < (acc.length : Int) + 1) := by omega
     have hl9 : Hid (acc.length + (k + 1) = 8) := hlen
     have hl7 : acc.length ≤ 7 := by omega
     clear hgo1 hlen
     rcases HPL with h2 | ⟨h1, h2⟩
     ·
      obtain rfl : K = 2 := by omega
      cases hdot : Gr.isT [46] r with
      | true =>
       have HX : Hid (Gr.path lo up ts 8 ts [] = Gr.path lo up ts k r.tail (acc ++ [T])) := by show _ = _; rw [hH.out, Gr.path_on h2 hdot, hT]; rfl
       clear hE hK h2 hH hT
       go_wp2_with (first | (go_at_call 32; refine qn.out.mono ?_; rintro e w1 ⟨rfl, hb1⟩) | (go_at_call 99; refine (hc.out _ (hBes.below (bl_alloc hb1 _))).mono ?_; rintro e w2 ⟨rfl, hw2⟩; rw [hw2]; clear hw2 w2) | (go_at_call 34; refine (gr_step _ B S t r (hRd.out.below (bl_alloc hb1 _))).mono ?_; rintro e w2 ⟨rfl, hR2, hB2⟩; have hlt1 : B < w1.heap.size := (by have := hb1.size; have := hBes.size; omega); have x0 : w2.cell? ⟨w1.heap.size, 0, none⟩ = some (.int .i64 2) := (hB2.cell (by simp) (by simp; omega)).trans (by simp [go_sem]); have x1 : w2.cell? ⟨w1.heap.size, 1, none⟩ = some (.string T) := (hB2.cell (by simp) (by simp; omega)).trans (by simp [go_sem]); have hBes2 : Bes B w w2 := (hBes.below (bl_alloc hb1 _)).trans hB2; have hrow2 := own_bes (hrow.out) ((Bes.of_below (bl_alloc hb1 _)).trans hB2) hBlt; have hlt2 : w1.heap.size < w2.heap.size := (by have := hB2.size; simp at this; omega)) | (at_builtin; refine wpList_append_own _ rfl _ _ 22 rfl w.heap.size 9 i0 (.string ⟨#[]⟩) 1 16 Tryz.underlying22 hi hz0 hz1 hz2 rfl (by decide) _ _ _ rfl (hrow2.alloc _) ⟨w2.heap.size, 0, none⟩ 1 1 [.string T] rfl rfl (cell_one_new _ _ _) (by simp [Value.oneCell']) (by unfold maxLen; omega) (by omega) (by have := hBes2.size; simp; omega) ?_; intro v' w3 hown' hgrow _; have y0 : w3.cell? ⟨w1.heap.size, 0, none⟩ = some (.int .i64 2) := hgrow.cell (by simp [go_sem, hlt2, x0]) (own_new hrow.out (by have := hb1.size; omega)); obtain ⟨va, vc, hvf⟩ := own_shape hown'; subst hvf; have hR3 : Hid (Rd w3 B S r) := (hR2.alloc _).grown hgrow (fun j ej => by have := own_row hrow2 j ej; omega); have hBes3 : Bes B w w3 := (hBes2.alloc _).grown hgrow (own_row hrow2); have hOwn : Hid (w3.ownsRow w.heap.size 9 1 (.slice va (acc.length + 1) vc) (acc.length + 1) (acc.map Value.string ++ [.string T])) := hown'; have hlt3 : w1.heap.size < w3.heap.size := (by have := hgrow.size; simp at this; omega); clear hown' hgrow) | (go_at_call 15; refine (gr_take _ B S r hR3.out ⟨#[46]⟩ _ hdot).mono ?_; rintro e w4 ⟨rfl, hR4, hB4⟩; have z0 : w4.cell? ⟨w1.heap.size, 0, none⟩ = some (.int .i64 2) := (hB4.cell hlt3 (by simp; omega)).trans y0))
       go_roundw
       case rel => exact ⟨k, r.tail, acc ++ [T], HX, by rw [List.length_append]; have := hl9.out; simp; omega, hacc2.out, own_bes (hmap.out _ _ hOwn.out) hB4 hBlt, hR4, hBes3.trans hB4⟩
       case measure => simp; omega
      | false =>
       have HX : Hid (Gr.path lo up ts 8 ts [] = if up = true then .ok (acc ++ [T]) false r else .bad r 11) := by show _ = _; rw [hH.out, Gr.path_end h2 hdot, hT]; rfl
       cases up with
       | true =>
        obtain rfl : E = true := by rw [← hE, h2]; simp
        clear hE hK h2 hH hT
        go_wp2_with (first | (go_at_call 32; refine qn.out.mono ?_; rintro e w1 ⟨rfl, hb1⟩) | (go_at_call 99; refine (hc.out _ (hBes.below (bl_alloc hb1 _))).mono ?_; rintro e w2 ⟨rfl, hw2⟩; rw [hw2]; clear hw2 w2) | (go_at_call 34; refine (gr_step _ B S t r (hRd.out.below (bl_alloc hb1 _))).mono ?_; rintro e w2 ⟨rfl, hR2, hB2⟩; have hlt1 : B < w1.heap.size := (by have := hb1.size; have := hBes.size; omega); have x0 : w2.cell? ⟨w1.heap.size, 0, none⟩ = some (.int .i64 2) := (hB2.cell (by simp) (by simp; omega)).trans (by simp [go_sem]); have x1 : w2.cell? ⟨w1.heap.size, 1, none⟩ = some (.string T) := (hB2.cell (by simp) (by simp; omega)).trans (by simp [go_sem]); have hBes2 : Bes B w w2 := (hBes.below (bl_alloc hb1 _)).trans hB2; have hrow2 := own_bes (hrow.out) ((Bes.of_below (bl_alloc hb1 _)).trans hB2) hBlt; have hlt2 : w1.heap.size < w2.heap.size := (by have := hB2.size; simp at this; omega)) | (at_builtin; refine wpList_append_own _ rfl _ _ 22 rfl w.heap.size 9 i0 (.string ⟨#[]⟩) 1 16 Tryz.underlying22 hi hz0 hz1 hz2 rfl (by decide) _ _ _ rfl (hrow2.alloc _) ⟨w2.heap.size, 0, none⟩ 1 1 [.string T] rfl rfl (cell_one_new _ _ _) (by simp [Value.oneCell']) (by unfold maxLen; omega) (by omega) (by have := hBes2.size; simp; omega) ?_; intro v' w3 hown' hgrow _; have y0 : w3.cell? ⟨w1.heap.size, 0, none⟩ = some (.int .i64 2) := hgrow.cell (by simp [go_sem, hlt2, x0]) (own_new hrow.out (by have := hb1.size; omega)); obtain ⟨va, vc, hvf⟩ := own_shape hown'; subst hvf; have hR3 : Hid (Rd w3 B S r) := (hR2.alloc _).grown hgrow (fun j ej => by have := own_row hrow2 j ej; omega); have hBes3 : Bes B w w3 := (hBes2.alloc _).grown hgrow (own_row hrow2); have hOwn : Hid (w3.ownsRow w.heap.size 9 1 (.slice va (acc.length + 1) vc) (acc.length + 1) (acc.map Value.string ++ [.string T])) := hown'; have hlt3 : w1.heap.size < w3.heap.size := (by have := hgrow.size; simp at this; omega); clear hown' hgrow) | (go_at_call 15; refine (gr_take _ B S r hR3.out ⟨#[46]⟩ _ hdot).mono ?_; rintro e w4 ⟨rfl, hR4, hB4⟩; have z0 : w4.cell? ⟨w1.heap.size, 0, none⟩ = some (.int .i64 2) := (hB4.cell hlt3 (by simp; omega)).trans y0))
        go_region
        all_goals
         go_wp2
         go_ret2
         rw [HX.out]
         exact ⟨⟨_, rfl, Tx.own (hmap.out _ _ (own_bes hOwn.out hB4.drew hBlt)), hacc2.out, by rw [List.length_append]; unfold maxLen; simp; omega⟩, hR4.below (Below.refl _ _).drew, (hBes3.trans hB4).drew⟩
       | false =>
        obtain rfl : E = false := by rw [← hE, h2]; simp
        clear hE hK h2 hH hT
        go_wp2_with (first | (go_at_call 32; refine qn.out.mono ?_; rintro e w1 ⟨rfl, hb1⟩) | (go_at_call 99; refine (hc.out _ (hBes.below (bl_alloc hb1 _))).mono ?_; rintro e w2 ⟨rfl, hw2⟩; rw [hw2]; clear hw2 w2) | (go_at_call 34; refine (gr_step _ B S t r (hRd.out.below (bl_alloc hb1 _))).mono ?_; rintro e w2 ⟨rfl, hR2, hB2⟩; have hlt1 : B < w1.heap.size := (by have := hb1.size; have := hBes.size; omega); have x0 : w2.cell? ⟨w1.heap.size, 0, none⟩ = some (.int .i64 2) := (hB2.cell (by simp) (by simp; omega)).trans (by simp [go_sem]); have x1 : w2.cell? ⟨w1.heap.size, 1, none⟩ = some (.string T) := (hB2.cell (by simp) (by simp; omega)).trans (by simp [go_sem]); have hBes2 : Bes B w w2 := (hBes.below (bl_alloc hb1 _)).trans hB2; have hrow2 := own_bes (hrow.out) ((Bes.of_below (bl_alloc hb1 _)).trans hB2) hBlt; have hlt2 : w1.heap.size < w2.heap.size := (by have := hB2.size; simp at this; omega)) | (at_builtin; refine wpList_append_own _ rfl _ _ 22 rfl w.heap.size 9 i0 (.string ⟨#[]⟩) 1 16 Tryz.underlying22 hi hz0 hz1 hz2 rfl (by decide) _ _ _ rfl (hrow2.alloc _) ⟨w2.heap.size, 0, none⟩ 1 1 [.string T] rfl rfl (cell_one_new _ _ _) (by simp [Value.oneCell']) (by unfold maxLen; omega) (by omega) (by have := hBes2.size; simp; omega) ?_; intro v' w3 hown' hgrow _; have y0 : w3.cell? ⟨w1.heap.size, 0, none⟩ = some (.int .i64 2) := hgrow.cell (by simp [go_sem, hlt2, x0]) (own_new hrow.out (by have := hb1.size; omega)); obtain ⟨va, vc, hvf⟩ := own_shape hown'; subst hvf; have hR3 : Hid (Rd w3 B S r) := (hR2.alloc _).grown hgrow (fun j ej => by have := own_row hrow2 j ej; omega); have hBes3 : Bes B w w3 := (hBes2.alloc _).grown hgrow (own_row hrow2); have hOwn : Hid (w3.ownsRow w.heap.size 9 1 (.slice va (acc.length + 1) vc) (acc.length + 1) (acc.map Value.string ++ [.string T])) := hown'; have hlt3 : w1.heap.size < w3.heap.size := (by have := hgrow.size; simp at this; omega); clear hown' hgrow) | (go_at_call 15; refine (gr_take _ B S r hR3.out ⟨#[46]⟩ _ hdot).mono ?_; rintro e w4 ⟨rfl, hR4, hB4⟩; have z0 : w4.cell? ⟨w1.heap.size, 0, none⟩ = some (.int .i64 2) := (hB4.cell hlt3 (by simp; omega)).trans y0) | (go_at_call 37; refine (gr_giveUp _ B S r hR4).mono ?_; rintro e w5 ⟨rfl, hw5⟩; rw [hw5]; clear hw5 w5))
        refine ⟨rfl, ?_⟩
        rw [HX.out]
        exact ⟨rfl, ⟨_, hR4⟩, hBes3.trans hB4⟩
     ·
      obtain rfl : K = 1 := by omega
      obtain rfl : E = true := by rw [← hE, h1, h2]; rfl
      subst h1
      have HX : Hid (Gr.path true up ts 8 ts [] = .ok (acc ++ [T]) true r) := by show _ = _; rw [hH.out, Gr.path_low h2, hT]; rfl
      clear hE hK h2 hH hT
      go_wp2_with (first | (go_at_call 32; refine qn.out.mono ?_; rintro e w1 ⟨rfl, hb1⟩) | (go_at_call 99; refine (hc.out _ (hBes.below (bl_alloc hb1 _))).mono ?_; rintro e w2 ⟨rfl, hw2⟩; rw [hw2]; clear hw2 w2) | (go_at_call 34; refine (gr_step _ B S t r (hRd.out.below (bl_alloc hb1 _))).mono ?_; rintro e w2 ⟨rfl, hR2, hB2⟩; have hlt1 : B < w1.heap.size := (by have := hb1.size; have := hBes.size; omega); have x0 : w2.cell? ⟨w1.heap.size, 0, none⟩ = some (.int .i64 1) := (hB2.cell (by simp) (by simp; omega)).trans (by simp [go_sem]); have x1 : w2.cell? ⟨w1.heap.size, 1, none⟩ = some (.string T) := (hB2.cell (by simp) (by simp; omega)).trans (by simp [go_sem]); have hBes2 : Bes B w w2 := (hBes.below (bl_alloc hb1 _)).trans hB2; have hrow2 := own_bes (hrow.out) ((Bes.of_below (bl_alloc hb1 _)).trans hB2) hBlt; have hlt2 : w1.heap.size < w2.heap.size := (by have := hB2.size; simp at this; omega)) | (at_builtin; refine wpList_append_own _ rfl _ _ 22 rfl w.heap.size 9 i0 (.string ⟨#[]⟩) 1 16 Tryz.underlying22 hi hz0 hz1 hz2 rfl (by decide) _ _ _ rfl (hrow2.alloc _) ⟨w2.heap.size, 0, none⟩ 1 1 [.string T] rfl rfl (cell_one_new _ _ _) (by simp [Value.oneCell']) (by unfold maxLen; omega) (by omega) (by have := hBes2.size; simp; omega) ?_; intro v' w3 hown' hgrow _; have y0 : w3.cell? ⟨w1.heap.size, 0, none⟩ = some (.int .i64 1) := hgrow.cell (by simp [go_sem, hlt2, x0]) (own_new hrow.out (by have := hb1.size; omega)); obtain ⟨va, vc, hvf⟩ := own_shape hown'; subst hvf; have hR3 : Hid (Rd w3 B S r) := (hR2.alloc _).grown hgrow (fun j ej => by have := own_row hrow2 j ej; omega); have hBes3 : Bes B w w3 := (hBes2.alloc _).grown hgrow (own_row hrow2); have hOwn : Hid (w3.ownsRow w.heap.size 9 1 (.slice va (acc.length + 1) vc) (acc.length + 1) (acc.map Value.string ++ [.string T])) := hown'; have hlt3 : w1.heap.size < w3.heap.size := (by have := hgrow.size; simp at this; omega); clear hown' hgrow))
      go_region
      all_goals
       go_wp2
       go_ret2
       rw [HX.out]
       exact ⟨⟨_, rfl, Tx.own (hmap.out _ _ (own_bes hOwn.out (Bes.refl B _).drew hBlt)), hacc2.out, by rw [List.length_append]; unfold maxLen; simp; omega⟩, hR3.out.below (Below.refl _ _).drew, hBes3.drew⟩

theorem gr_alloc_ints {w : World} {zs : List Int} {t : TypeId} : ∀ j, j < zs.length → (w.alloc (.cells (zs.map (Value.int .i64)).toArray t)).cell? ⟨w.heap.size, 0 + j, none⟩ = some (.int .i64 (zs.getD j 0)) := fun j hj => by
 rw [World.cell?_alloc_at _ _ _ _ rfl]
 simp [hj]
theorem Gr.zs_low (k : Nat) : [(1 : Int)].contains (k : Int) = ((true && decide (k = 1)) || (false && decide (k = 2))) := by
 rw [Bool.eq_iff_iff]; simp; omega
theorem Gr.zs_high (k : Nat) : [(2 : Int)].contains (k : Int) = ((false && decide (k = 1)) || (true && decide (k = 2))) := by
 rw [Bool.eq_iff_iff]; simp; omega
theorem Gr.zs_both (k : Nat) : [(1 : Int), 2].contains (k : Int) = ((true && decide (k = 1)) || (true && decide (k = 2))) := by
 rw [Bool.eq_iff_iff]; simp; omega
def Gr.LAns (B S : Nat) (w : World) (R : Gr.PRes) (e : Ending) (w' : World) : Prop := match R with
 | .ok p low r => (∃ v, e = .returned v ∧ Tx w' (Ge w.heap.size) v p ∧ (∀ x, x ∈ p → x.size ≤ maxLen) ∧ p.length ≤ maxLen) ∧ Rd w' B S r ∧ Bes B w w'
 | .bad r c => e = .panicked [Gr.pe (Gr.place S r) c] ∧ (∃ ts', Rd w' B S ts') ∧ Bes B w w'

set_option maxHeartbeats 600000 in
set_option maxRecDepth 100000 in
theorem gr_lowPath (w : World) (B S : Nat) (ts : Gr.Ts) (h : Rd w B S ts) :
  Calls Tryz.prog 110 #[.pointer (some ⟨B, 0, none⟩)] w (Gr.LAns B S w (Gr.low ts)) := by
 have q : Hid (Calls Tryz.prog 63 #[.pointer (some ⟨B, 0, none⟩), .slice (some ⟨w.heap.size, 0, none⟩) 1 1] (w.alloc (.cells #[.int .i64 1] 3)) (Gr.PAns B S (w.alloc (.cells #[.int .i64 1] 3)) (Gr.low ts))) := gr_path true false _ B S ts (h.alloc _) w.heap.size 1 [1] (by simp) (by have := h.lt; omega) rfl (by decide) (gr_alloc_ints (zs := [1])) Gr.zs_low
 clear h
 cases hL : Gr.low ts with
 | ok p low r =>
  rw [hL] at q
  clear hL
  go_enter Tryz.func110, Tryz.ntmps110
  go_wp2_with (go_at_call 63; refine q.out.mono ?_; rintro e w1 ⟨⟨v, rfl, hv⟩, hR, hB⟩; generalize (if low = true then (1 : Int) else 2) = kk)
  go_ret
  exact ⟨⟨_, rfl, hv.1.move (Keeps.refl _ _) (Ge.le (by simp)), hv.2⟩, hR, ((Bes.refl _ _).alloc _).trans hB⟩
 | bad r c =>
  rw [hL] at q
  clear hL
  go_enter Tryz.func110, Tryz.ntmps110
  go_wp2_with (go_at_call 63; refine q.out.mono ?_; rintro e w1 ⟨rfl, hR, hB⟩)
  exact ⟨rfl, rfl, hR, ((Bes.refl _ _).alloc _).trans hB⟩

set_option maxHeartbeats 600000 in
set_option maxRecDepth 100000 in
theorem gr_highPath (w : World) (B S : Nat) (ts : Gr.Ts) (h : Rd w B S ts) :
  Calls Tryz.prog 35 #[.pointer (some ⟨B, 0, none⟩)] w (Gr.LAns B S w (Gr.high ts)) := by
 have q : Hid (Calls Tryz.prog 63 #[.pointer (some ⟨B, 0, none⟩), .slice (some ⟨w.heap.size, 0, none⟩) 1 1] (w.alloc (.cells #[.int .i64 2] 3)) (Gr.PAns B S (w.alloc (.cells #[.int .i64 2] 3)) (Gr.high ts))) := gr_path false true _ B S ts (h.alloc _) w.heap.size 1 [2] (by simp) (by have := h.lt; omega) rfl (by decide) (gr_alloc_ints (zs := [2])) Gr.zs_high
 clear h
 cases hL : Gr.high ts with
 | ok p low r =>
  rw [hL] at q
  clear hL
  go_enter Tryz.func35, Tryz.ntmps35
  go_wp2_with (go_at_call 63; refine q.out.mono ?_; rintro e w1 ⟨⟨v, rfl, hv⟩, hR, hB⟩; generalize (if low = true then (1 : Int) else 2) = kk)
  go_ret
  exact ⟨⟨_, rfl, hv.1.move (Keeps.refl _ _) (Ge.le (by simp)), hv.2⟩, hR, ((Bes.refl _ _).alloc _).trans hB⟩
 | bad r c =>
  rw [hL] at q
  clear hL
  go_enter Tryz.func35, Tryz.ntmps35
  go_wp2_with (go_at_call 63; refine q.out.mono ?_; rintro e w1 ⟨rfl, hR, hB⟩)
  exact ⟨rfl, rfl, hR, ((Bes.refl _ _).alloc _).trans hB⟩

def Gr.Ans (B S s : Nat) (w : World) (R : Gr.Res) (e : Ending) (w' : World) : Prop := match R with
 | .ok nd r => (∃ vs n, e = .returned (.agg vs.toArray) ∧ At w' (Ge w.heap.size) n s vs nd) ∧ Rd w' B S r ∧ Bes B w w'
 | .bad r c => e = .panicked [Gr.pe (Gr.place S r) c] ∧ (∃ ts', Rd w' B S ts') ∧ Bes B w w'
 | .out => True
theorem results_cell1 {fn : Func} {p : Tmp} {ty : TypeId} (h : fn.results = #[.cell p ty]) (tmps : Array Value) (P : Program) (w : World) :
  (results fn tmps).run P w = ((asAddr (tmps.getD p undef)).run P w).andThen fun a w₁ => ((loadVar ty a).run P w₁) := by
 simp only [results, h]
 simp [Sem.run_bind, Result.andThen]
theorem Gr.Ans.mk {B S s n : Nat} {w w1 W : World} {vs : List Value} {nd : Nd} {r : Gr.Ts} (hlt : B < w.heap.size) (hs : Save w.heap.size w1 W) (hR : Rd w1 B S r) (hB : Bes B w w1) (ha : At w1 (Ge (w.heap.size + 1)) n s vs nd) :
  Gr.Ans B S s w (.ok nd r) (.returned (.agg vs.toArray)) W :=
 ⟨⟨vs, n, rfl, At.move (Keeps.save hs (Nat.lt_succ_self _)) (Ge.le (Nat.le_succ _)) _ _ _ _ ha⟩, hR.save hs hlt, hB.save hs (Nat.le_refl _)⟩
def Gr.Rule (fn : FuncId) (nt : Gr.Nt) (s f : Nat) : Prop := ∀ (w : World) (B S : Nat) (ts : Gr.Ts), Rd w B S ts → Gr.g f nt ts ≠ .out → Calls Tryz.prog fn #[.pointer (some ⟨B, 0, none⟩)] w (Gr.Ans B S s w (Gr.g f nt ts))
theorem Tx.none0 (w : World) (K : Nat → Prop) : Tx w K (.slice none 0 0) [] := .inr ⟨rfl, _, _, rfl⟩
theorem AtL.none0 (w : World) (K : Nat → Prop) (n s : Nat) : AtL w K n s (.slice none 0 0) [] := .inr ⟨rfl, _, _, rfl⟩
theorem i64_ok {x : Int} (h : 0 ≤ x) (h2 : x ≤ 9223372036854775807) : -9223372036854775808 ≤ x ∧ x ≤ 9223372036854775807 := ⟨by omega, h2⟩

set_option maxHeartbeats 600000 in
set_option maxRecDepth 100000 in
theorem gr_pathExp (w : World) (B S : Nat) (ts : Gr.Ts) (h : Rd w B S ts) :
  Calls Tryz.prog 125 #[.pointer (some ⟨B, 0, none⟩)] w (Gr.Ans B S 2 w ((Gr.either ts).bind fun p low r => .ok (Gr.expN (if low = true then 5 else 6) 0 0 p [] [] [] []) r)) := by
 have q : Hid (∀ ob, Calls Tryz.prog 63 #[.pointer (some ⟨B, 0, none⟩), .slice (some ⟨w.heap.size + 1, 0, none⟩) 2 2] ((w.alloc ob).alloc (.cells #[.int .i64 1, .int .i64 2] 3)) (Gr.PAns B S ((w.alloc ob).alloc (.cells #[.int .i64 1, .int .i64 2] 3)) (Gr.either ts))) := fun ob => gr_path true true _ B S ts ((h.alloc _).alloc _) (w.heap.size + 1) 2 [1, 2] (by simp) (by have := h.lt; omega) rfl (by decide) (by have := gr_alloc_ints (w := w.alloc ob) (zs := [1, 2]) (t := 3); simpa using this) Gr.zs_both
 have hlt := h.lt
 clear h
 cases hL : Gr.either ts with
 | ok p low r =>
  rw [hL] at q
  clear hL
  cases low with
  | true =>
   go_enter Tryz.func125, Tryz.ntmps125
   go_wp2_with (go_at_call 63; refine (q.out _).mono ?_; rintro e w1 ⟨⟨v, rfl, hv, hx, hl⟩, hR0, hB⟩; obtain ⟨va, vc, rfl⟩ := hv.form; obtain ⟨⟨c0, c1, c2, c3, c4, c5, c6, c7⟩, z0, z1, z2, z3, z4, z5, z6, z7⟩ := (((Bx.new w [.int .i64 0, .int .i64 0, .int .i64 0, .slice none 0 0, .slice none 0 0, .slice none 0 0, .slice none 0 0, .slice none 0 0] 28).below (bl_alloc (Below.refl _ _) (.cells #[.int .i64 1, .int .i64 2] 3))).bes hB (by omega)).e8; have HX : Hid ((∀ x, x ∈ p → x.size ≤ maxLen) ∧ p.length ≤ maxLen) := ⟨hx, hl⟩; have hR : Hid (Rd w1 B S r) := hR0; have hT : Hid (Tx w1 (Ge (w.heap.size + 1)) (.slice va p.length vc) p) := hv.move (Keeps.refl _ _) (Ge.le (by simp)); have hBB : Hid (Bes B w w1) := (((Bes.refl _ _).alloc _).alloc _).trans hB; clear hx hl hR0 hv hB)
   refine bodyPost_ret (v := .agg #[.int .i64 5, .int .i64 0, .int .i64 0, .slice va p.length vc, .slice none 0 0, .slice none 0 0, .slice none 0 0, .slice none 0 0]) (by rw [results_cell1 (fn := Tryz.f125) (p := 2) (ty := 28) (by kernel_rfl)]; simp [go_sem, c0, c1, c2, c3, c4, c5, c6, c7]) rfl ?_
   exact Gr.Ans.mk hlt (by repeat' (first | refine Save.set ?_ _ _ | exact Save.refl _ _)) hR.out hBB.out (At.exp_mk (n := 0) (by decide) (by decide) (by decide) hT.out HX.out.1 HX.out.2 (AtL.none0 ..) (AtL.none0 ..) (AtL.none0 ..) (AtL.none0 ..))
  | false =>
   go_enter Tryz.func125, Tryz.ntmps125
   go_wp2_with (go_at_call 63; refine (q.out _).mono ?_; rintro e w1 ⟨⟨v, rfl, hv, hx, hl⟩, hR0, hB⟩; obtain ⟨va, vc, rfl⟩ := hv.form; obtain ⟨⟨c0, c1, c2, c3, c4, c5, c6, c7⟩, z0, z1, z2, z3, z4, z5, z6, z7⟩ := (((Bx.new w [.int .i64 0, .int .i64 0, .int .i64 0, .slice none 0 0, .slice none 0 0, .slice none 0 0, .slice none 0 0, .slice none 0 0] 28).below (bl_alloc (Below.refl _ _) (.cells #[.int .i64 1, .int .i64 2] 3))).bes hB (by omega)).e8; have HX : Hid ((∀ x, x ∈ p → x.size ≤ maxLen) ∧ p.length ≤ maxLen) := ⟨hx, hl⟩; have hR : Hid (Rd w1 B S r) := hR0; have hT : Hid (Tx w1 (Ge (w.heap.size + 1)) (.slice va p.length vc) p) := hv.move (Keeps.refl _ _) (Ge.le (by simp)); have hBB : Hid (Bes B w w1) := (((Bes.refl _ _).alloc _).alloc _).trans hB; clear hx hl hR0 hv hB)
   refine bodyPost_ret (v := .agg #[.int .i64 6, .int .i64 0, .int .i64 0, .slice va p.length vc, .slice none 0 0, .slice none 0 0, .slice none 0 0, .slice none 0 0]) (by rw [results_cell1 (fn := Tryz.f125) (p := 2) (ty := 28) (by kernel_rfl)]; simp [go_sem, c0, c1, c2, c3, c4, c5, c6, c7]) rfl ?_
   exact Gr.Ans.mk hlt (by repeat' (first | refine Save.set ?_ _ _ | exact Save.refl _ _)) hR.out hBB.out (At.exp_mk (n := 0) (by decide) (by decide) (by decide) hT.out HX.out.1 HX.out.2 (AtL.none0 ..) (AtL.none0 ..) (AtL.none0 ..) (AtL.none0 ..))
 | bad r c =>
  rw [hL] at q
  clear hL
  go_enter Tryz.func125, Tryz.ntmps125
  go_wp2_with (go_at_call 63; refine (q.out _).mono ?_; rintro e w1 ⟨rfl, hR, hB⟩)
  exact ⟨rfl, rfl, hR, (((Bes.refl _ _).alloc _).alloc _).trans hB⟩
end Go.Proofs.YtjebepnphoeiaabGreatDoor
namespace Go.Proofs.YtjebepnphoeiaabGreatDoor
set_option linter.unusedVariables false

theorem Gr.isT_len {x : List UInt8} {ts : Gr.Ts} (h : Gr.isT x ts = true) : ts.tail.length + 1 = ts.length := by
 cases ts with
 | nil => cases h
 | cons t r => rfl
theorem Gr.kd_len {ts : Gr.Ts} {k : Nat} (h : Gr.kd ts = k + 1) : ts.tail.length + 1 = ts.length := by
 cases ts with
 | nil => cases h
 | cons t r => rfl
theorem Gr.begE_len {ts : Gr.Ts} (h : Gr.begE ts = true) : 1 ≤ ts.length := by
 cases ts with
 | nil => cases h
 | cons t r => simp
theorem Gr.begP_len {ts : Gr.Ts} (h : Gr.begP ts = true) : 1 ≤ ts.length := by
 cases ts with
 | nil => cases h
 | cons t r => simp
theorem Gr.lows_len : ∀ (ts : Gr.Ts), (Gr.lows ts).2.length ≤ ts.length
 | [] => Nat.le_refl _
 | t :: r => by
  unfold Gr.lows
  split
  ·
   have := Gr.lows_len r; simp; omega
  ·
   simp

def Gr.Fine (m L : Nat) : Gr.Res → Prop
 | .ok _ r => r.length + m ≤ L
 | .bad _ _ => True
 | .out => False
theorem Gr.Fine.bind {m L m1 L1 : Nat} {a : Gr.Res} {k : Nd → Gr.Ts → Gr.Res} (h : Gr.Fine m1 L1 a) (hk : ∀ v r, r.length + m1 ≤ L1 → Gr.Fine m L (k v r)) : Gr.Fine m L (a.bind k) := by
 cases a with
 | ok v r => exact hk v r h
 | bad r e => trivial
 | out => exact h.elim
theorem Gr.Fine.need {m L : Nat} {x : List UInt8} {ts : Gr.Ts} {k : Gr.Ts → Gr.Res} (hk : ts.tail.length + 1 = ts.length → Gr.Fine m L (k ts.tail)) : Gr.Fine m L (Gr.need x ts k) := by
 unfold Gr.need
 split
 ·
  next h => exact hk (Gr.isT_len h)
 ·
  trivial
theorem Gr.Fine.name {m L q : Nat} {ts : Gr.Ts} {k : ByteArray → Gr.Ts → Gr.Res} (hk : ∀ s, ts.tail.length + 1 = ts.length → Gr.Fine m L (k s ts.tail)) : Gr.Fine m L (Gr.name (q + 1) ts k) := by
 unfold Gr.name
 split
 ·
  next h => exact hk _ (Gr.kd_len h)
 ·
  trivial
def Gr.PFine (L : Nat) : Gr.PRes → Prop
 | .ok _ _ r => r.length + 1 ≤ L
 | .bad _ _ => True
theorem Gr.path_fine (lo up : Bool) (first : Gr.Ts) : ∀ (k : Nat) (ts : Gr.Ts) (acc : List ByteArray), Gr.PFine ts.length (Gr.path lo up first k ts acc)
 | k, ts, acc => by
  unfold Gr.path
  split
  ·
   trivial
  ·
   next h =>
   have hl : ts.tail.length + 1 = ts.length := by
    cases ts with
    | nil => simp [Gr.kd] at h
    | cons t r => rfl
   cases k with
   | zero => trivial
   | succ k =>
    simp only
    split
    ·
     have := Gr.path_fine lo up first k ts.tail.tail (acc ++ [Gr.hd ts])
     revert this
     cases Gr.path lo up first k ts.tail.tail (acc ++ [Gr.hd ts]) with
     | ok p l r =>
      intro h2
      have h3 : r.length + 1 ≤ ts.tail.tail.length := h2
      have : ts.tail.tail.length ≤ ts.tail.length := by simp
      show r.length + 1 ≤ ts.length
      omega
     | bad r e => intro; trivial
    ·
     split
     ·
      show ts.tail.length + 1 ≤ ts.length
      omega
     ·
      trivial
theorem Gr.PFine.bind {m L L1 : Nat} {a : Gr.PRes} {k : List ByteArray → Bool → Gr.Ts → Gr.Res} (h : Gr.PFine L1 a) (hk : ∀ p l r, r.length + 1 ≤ L1 → Gr.Fine m L (k p l r)) : Gr.Fine m L (a.bind k) := by
 cases a with
 | ok p l r => exact hk p l r h
 | bad r e => trivial

def Gr.Nt.rank : Gr.Nt → Nat
 | .ty => 6 | .pairTy => 5 | .pairGo _ => 0 | .atomTy => 4
 | .pat => 6 | .atomPat => 5 | .restPat => 7
 | .exp => 7 | .cmp => 6 | .sum => 5 | .sumGo _ => 0 | .prod => 4 | .prodGo _ => 0 | .app => 3 | .appGo _ => 2 | .atom => 1
 | .restExp => 8 | .letGo _ => 9 | .case => 8 | .caseGo _ _ => 7
 | .dec => 8 | .decTy _ _ _ => 7 | .decEq _ _ _ _ => 6
def Gr.Nt.least : Gr.Nt → Nat
 | .pairGo _ => 0 | .sumGo _ => 0 | .prodGo _ => 0 | .appGo _ => 0 | _ => 1

theorem Gr.Fine.le {m L m1 L1 : Nat} {a : Gr.Res} (h : Gr.Fine m1 L1 a) (hl : L1 + m ≤ L + m1) : Gr.Fine m L a := by
 cases a with
 | ok v r => have : r.length + m1 ≤ L1 := h; show r.length + m ≤ L; omega
 | bad r e => trivial
 | out => exact h.elim
theorem Gr.Fine.ite {m L : Nat} {x : List UInt8} {ts : Gr.Ts} {a b : Gr.Res} (ha : ts.tail.length + 1 = ts.length → Gr.Fine m L a) (hb : Gr.Fine m L b) : Gr.Fine m L (if Gr.isT x ts = true then a else b) := by
 split
 ·
  next h => exact ha (Gr.isT_len h)
 ·
  exact hb
theorem Gr.Fine.ite2 {m L : Nat} {x y : List UInt8} {ts : Gr.Ts} {a b : Gr.Res} (ha : ts.tail.length + 1 = ts.length → Gr.Fine m L a) (hb : Gr.Fine m L b) : Gr.Fine m L (if (Gr.isT x ts || Gr.isT y ts) = true then a else b) := by
 split
 ·
  next h =>
  rw [Bool.or_eq_true] at h
  exact ha (h.elim Gr.isT_len Gr.isT_len)
 ·
  exact hb
theorem Gr.Fine.kd {m L k : Nat} {ts : Gr.Ts} {a b : Gr.Res} (ha : ts.tail.length + 1 = ts.length → Gr.Fine m L a) (hb : Gr.Fine m L b) : Gr.Fine m L (if Gr.kd ts = k + 1 then a else b) := by
 split
 ·
  next h => exact ha (Gr.kd_len h)
 ·
  exact hb
theorem Gr.Fine.kd2 {m L k l : Nat} {ts : Gr.Ts} {a b : Gr.Res} (ha : ts.tail.length + 1 = ts.length → Gr.Fine m L a) (hb : Gr.Fine m L b) : Gr.Fine m L (if (decide (Gr.kd ts = k + 1) || decide (Gr.kd ts = l + 1)) = true then a else b) := by
 split
 ·
  next h =>
  rw [Bool.or_eq_true] at h
  exact ha (h.elim (fun h => Gr.kd_len (of_decide_eq_true h)) (fun h => Gr.kd_len (of_decide_eq_true h)))
 ·
  exact hb
theorem Gr.Fine.begE {m L : Nat} {ts : Gr.Ts} {a b : Gr.Res} (ha : 1 ≤ ts.length → Gr.Fine m L a) (hb : Gr.Fine m L b) : Gr.Fine m L (if Gr.begE ts = true then a else b) := by
 split
 ·
  next h => exact ha (Gr.begE_len h)
 ·
  exact hb
theorem Gr.Fine.begP {m L : Nat} {ts : Gr.Ts} {a b : Gr.Res} (ha : 1 ≤ ts.length → Gr.Fine m L a) (hb : Gr.Fine m L b) : Gr.Fine m L (if Gr.begP ts = true then a else b) := by
 split
 ·
  next h => exact ha (Gr.begP_len h)
 ·
  exact hb
theorem Gr.Fine.bad {m L : Nat} (r : Gr.Ts) (e : Int) : Gr.Fine m L (.bad r e) := trivial
theorem Gr.Fine.ok {m L : Nat} (v : Nd) (r : Gr.Ts) (h : r.length + m ≤ L) : Gr.Fine m L (.ok v r) := h

set_option maxHeartbeats 1000000 in
theorem Gr.fine : ∀ (f : Nat) (nt : Gr.Nt) (ts : Gr.Ts), 10 * ts.length + nt.rank < f → Gr.Fine nt.least ts.length (Gr.g f nt ts)
 | 0, nt, ts, h => absurd h (Nat.not_lt_zero _)
 | f + 1, nt, ts, h => by
  have use : ∀ (nt' : Gr.Nt) (ts' : Gr.Ts), 10 * ts'.length + nt'.rank < f → Gr.Fine nt'.least ts'.length (Gr.g f nt' ts') := Gr.fine f
  have hlow : ∀ ts, Gr.PFine ts.length (Gr.low ts) := fun ts => Gr.path_fine _ _ _ _ _ _
  have hhigh : ∀ ts, Gr.PFine ts.length (Gr.high ts) := fun ts => Gr.path_fine _ _ _ _ _ _
  have heith : ∀ ts, Gr.PFine ts.length (Gr.either ts) := fun ts => Gr.path_fine _ _ _ _ _ _
  have hlows : ∀ ts, (Gr.lows ts).2.length ≤ ts.length := Gr.lows_len
  cases nt <;> unfold Gr.g <;> simp only [Gr.Nt.rank, Gr.Nt.least] at h ⊢
  all_goals repeat' first
   | exact Gr.Fine.bad _ _
   | (refine Gr.Fine.need fun _ => ?_)
   | (refine Gr.Fine.name fun _ _ => ?_)
   | (refine Gr.Fine.ite (fun _ => ?_) ?_)
   | (refine Gr.Fine.ite2 (fun _ => ?_) ?_)
   | (refine Gr.Fine.kd (fun _ => ?_) ?_)
   | (refine Gr.Fine.kd2 (fun _ => ?_) ?_)
   | (refine Gr.Fine.begE (fun _ => ?_) ?_)
   | (refine Gr.Fine.begP (fun _ => ?_) ?_)
   | (refine Gr.PFine.bind (hlow _) fun _ _ _ _ => ?_)
   | (refine Gr.PFine.bind (hhigh _) fun _ _ _ _ => ?_)
   | (refine Gr.PFine.bind (heith _) fun _ _ _ _ => ?_)
   | (refine Gr.Fine.bind (use _ _ ?_) fun _ _ _ => ?_)
   | (refine Gr.Fine.ok _ _ ?_)
   | (refine (use _ _ ?_).le ?_)
  all_goals simp only [Gr.Nt.rank, Gr.Nt.least] at *
  all_goals first
   | omega
   | (have := hlows ts.tail.tail.tail; simp only [List.length_tail] at *; omega)
end Go.Proofs.YtjebepnphoeiaabGreatDoor
