/- A store whose metas are all open: what it answers. -/
import Derived.Test.YtjodgnkhociaaaaGreatQas
import Derived.Test.YtjodgnkhociaaaaGreatQau
import Derived.Test.YtjodgnkhociaaaaGreatQad
namespace Go.Proofs.YtjodgnkhociaaaaGreat
open Go.RowKit
set_option linter.unusedVariables false
set_option linter.unusedSimpArgs false

mutual
def opB (n0 : Nat) : Tp → Bool
  | .mk k m ks => (decide (k ≠ 7) || (ks.isEmpty && decide (0 ≤ m) && decide (m < (n0 : Int)))) && opL n0 ks
def opL (n0 : Nat) : List Tp → Bool
  | [] => true
  | x :: r => opB n0 x && opL n0 r
end
/-- All metas in a type are open ones of a store that has n0. -/
def OpM (n0 : Nat) (t : Tp) : Prop := opB n0 t = true
theorem opL_mem {n0 : Nat} : ∀ {l : List Tp} {x : Tp}, opL n0 l = true → x ∈ l → opB n0 x = true
  | y :: r, x, h, hx => by
    rw [opL, Bool.and_eq_true] at h
    rcases List.mem_cons.1 hx with rfl | hx
    · exact h.1
    · exact opL_mem h.2 hx
theorem OpM.kid {n0 : Nat} {t x : Tp} (h : OpM n0 t) (hx : x ∈ t.ks) : OpM n0 x := by
  obtain ⟨k, m, ks⟩ := t
  unfold OpM at h
  rw [opB, Bool.and_eq_true] at h
  exact opL_mem h.2 hx
theorem OpM.meta {n0 : Nat} {t : Tp} (h : OpM n0 t) (h7 : t.k = 7) : ∃ k : Nat, k < n0 ∧ t = .mk 7 (k : Int) [] := by
  obtain ⟨k, m, ks⟩ := t
  unfold OpM at h
  rw [opB, Bool.and_eq_true, Bool.or_eq_true] at h
  simp only [Tp.k] at h7
  subst h7
  have h1 := h.1.resolve_left (by simp)
  simp only [Bool.and_eq_true, decide_eq_true_eq, List.isEmpty_iff] at h1
  obtain ⟨⟨rfl, h2⟩, h3⟩ := h1
  exact ⟨m.toNat, by omega, by rw [Int.toNat_of_nonneg h2]⟩
theorem StoG.cellk {w : World} {S M base n : Nat} {v : Value} (h : StoG w S M base v n) {k : Nat} (hk : k < n) : ∃ g c, v = .slice (some ⟨g, 0, none⟩) n c ∧ w.cell? ⟨g, k, none⟩ = some (.pointer none) := by
  obtain ⟨g, c, e, -, -, hc⟩ := own_cell h.own (by omega)
  exact ⟨g, c, e, hc k _ (by rw [List.getElem?_replicate, if_pos hk])⟩
set_option maxRecDepth 100000 in
theorem rawO (w : World) (S M base : Nat) (v : Value) (n : Nat) (h : StoG w S M base v n) (k : Nat) (hk : k < n) : Calls Tryz.prog 49 #[.pointer (some ⟨S, 0, none⟩), .int .i64 (k : Int)] w fun e w' => e = .returned (.pointer none) ∧ w' = w := by
  obtain ⟨g, c, rfl, hc⟩ := h.cellk hk
  have c0 := h.st.cell
  have hlt : (k : Int) < (n : Int) := by omega
  clear h
  go_enter Tryz.func49, Tryz.ntmps49
  go_wp2
  go_ret
  exact ⟨rfl, rfl⟩
set_option maxRecDepth 100000 in
theorem atO (w : World) (S M base : Nat) (v : Value) (n : Nat) (h : StoG w S M base v n) (k : Nat) (hk : k < n) : Calls Tryz.prog 34 #[.pointer (some ⟨S, 0, none⟩), .int .i64 (k : Int)] w fun e w' => e = .returned (.agg #[.int .i64 k, .int .i64 0, .int .i64 k, .int .i64 k, .pointer none, .int .i64 1, .pointer none]) ∧ Below w.heap.size w w' := by
  have hr : Hid (∀ o, Calls Tryz.prog 49 #[.pointer (some ⟨S, 0, none⟩), .int .i64 (k : Int)] (w.alloc o) fun e w' => e = .returned (.pointer none) ∧ w' = w.alloc o) := fun o => rawO _ S M base v n (h.stays (bl_alloc (Below.refl _ _) o)) k hk
  clear h hk
  go_enter Tryz.func34, Tryz.ntmps34
  go_wp2_with (go_at_call 49; refine (hr.out _).mono ?_; rintro e w3 ⟨rfl, hw⟩; rw [hw]; clear hw w3)
  refine bodyPost_ret (v := .agg #[.int .i64 k, .int .i64 0, .int .i64 k, .int .i64 k, .pointer none, .int .i64 1, .pointer none]) (by rw [results_cell1 (fn := Tryz.f34) (p := 4) (ty := FT) (by kernel_rfl)]; simp [go_sem]) rfl ?_
  exact ⟨rfl, bl_alloc (Below.refl _ _) _⟩
set_option maxRecDepth 100000 in
theorem rootO (w : World) (S M base : Nat) (v : Value) (n : Nat) (h : StoG w S M base v n) (k : Nat) (hk : k < n) : Calls Tryz.prog 48 #[.pointer (some ⟨S, 0, none⟩), .int .i64 (k : Int)] w fun e w' => e = .returned (.int .i64 (k : Int)) ∧ w' = w := by
  have hr := hid (rawO w S M base v n h k hk)
  clear h hk
  go_enter Tryz.func48, Tryz.ntmps48
  go_wp2
  refine wp_loop_rounds 1 ?_
  rw [rounds_succ]
  go_wp2_with (go_at_call 49; refine hr.out.mono ?_; rintro e w3 ⟨rfl, hw⟩; rw [hw]; clear hw w3)
  go_ret
  exact ⟨rfl, rfl⟩
set_option maxRecDepth 100000 in
theorem classO (w : World) (S M base : Nat) (v : Value) (n : Nat) (h : StoG w S M base v n) (k : Nat) (hk : k < n) : Calls Tryz.prog 33 #[.pointer (some ⟨S, 0, none⟩), .agg #[.int .i64 7, .int .i64 (k : Int), .slice none 0 0]] w fun e w' => e = .returned (.tuple #[.int .i64 (k : Int), .bool true]) ∧ Below w.heap.size w w' := by
  have HQ : Hid (∀ o, Calls Tryz.prog 48 #[.pointer (some ⟨S, 0, none⟩), .int .i64 (k : Int)] (w.alloc o) fun e w' => e = .returned (.int .i64 (k : Int)) ∧ w' = w.alloc o) := fun o => rootO _ S M base v n (h.stays (bl_alloc (Below.refl _ _) o)) k hk
  have h0 : ¬ ((k : Int) < 0) := by omega
  clear h hk
  go_enter Tryz.func33, Tryz.ntmps33
  go_wp2_with (go_at_call 48; refine (HQ.out _).mono ?_; rintro e w3 ⟨rfl, hw⟩; rw [hw]; clear hw w3)
  go_ret2
  exact ⟨rfl, bl_alloc (Below.refl _ _) _⟩
theorem fldO (k : Int) (w : World) : (Instr.field 141 (.agg #[.int .i64 k, .int .i64 0, .int .i64 k, .int .i64 k, .pointer none, .int .i64 1, .pointer none]) 4).run Tryz.prog w = .ok (.pointer none) w := by kernel_rfl
theorem fldO5 (k : Int) (w : World) : (Instr.field 141 (.agg #[.int .i64 k, .int .i64 0, .int .i64 k, .int .i64 k, .pointer none, .int .i64 1, .pointer none]) 5).run Tryz.prog w = .ok (.int .i64 1) w := by kernel_rfl
set_option maxHeartbeats 1000000 in
set_option maxRecDepth 100000 in
theorem strangeO (w : World) (S M base : Nat) (v : Value) (n : Nat) (h : StoG w S M base v n) (k : Nat) (hk : k < n) : Calls Tryz.prog 50 #[.pointer (some ⟨S, 0, none⟩), .agg #[.int .i64 k, .int .i64 0, .int .i64 k, .int .i64 k, .pointer none, .int .i64 1, .pointer none]] w fun e w' => e = .returned (.bool false) ∧ Below w.heap.size w w' := by
  obtain ⟨a, c, rfl⟩ := own_form h.own
  have hc : ∀ o, ∀ j, (w.alloc o).cell? ⟨S, j, none⟩ = [.slice a n c, .map (some M)][j]? := fun o => (h.st.stays (bl_alloc (Below.refl _ _) o)).cell
  have hq2 : ¬ ((n : Int) ≤ (k : Int)) := by omega
  have HK := hid hk
  clear h hk
  go_enter Tryz.func50, Tryz.ntmps50
  go_wp2
  go_quiet (fail)
  go_wp2
  go_ret
  exact ⟨congrArg (fun z => Ending.returned (.bool z)) (decide_eq_false (by have := HK.out; omega)), bl_tr (bl_alloc (Below.refl _ _) _) (bl_drewN _ _)⟩
set_option maxHeartbeats 1000000 in
set_option maxRecDepth 100000 in
theorem ownO (w : World) (S M base : Nat) (v : Value) (n : Nat) (h : StoG w S M base v n) (k : Nat) (hk : k < n) : Calls Tryz.prog 36 #[.pointer (some ⟨S, 0, none⟩), .agg #[.int .i64 k, .int .i64 0, .int .i64 k, .int .i64 k, .pointer none, .int .i64 1, .pointer none]] w fun e w' => e = .returned (.agg #[.int .i64 7, .int .i64 (k : Int), .slice none 0 0]) ∧ Below w.heap.size w w' := by
  have HS : Hid (∀ wz, Below w.heap.size w wz → Calls Tryz.prog 50 #[.pointer (some ⟨S, 0, none⟩), .agg #[.int .i64 k, .int .i64 0, .int .i64 k, .int .i64 k, .pointer none, .int .i64 1, .pointer none]] wz fun e w' => e = .returned (.bool false) ∧ Below wz.heap.size wz w') := fun wz hz => strangeO _ S M base v n (h.stays hz) k hk
  have hbb := bl_alloc (bl_alloc (Below.refl w.heap.size w) (.cells #[.int .i64 k, .int .i64 0, .int .i64 k, .int .i64 k, .pointer none, .int .i64 1, .pointer none] FT)) (.cells #[.int .i64 0, .int .i64 0, .slice none 0 0] 47)
  have x0 : Arr (w.alloc (.cells #[.int .i64 k, .int .i64 0, .int .i64 k, .int .i64 k, .pointer none, .int .i64 1, .pointer none] FT)) w.heap.size FT [.int .i64 k, .int .i64 0, .int .i64 k, .int .i64 k, .pointer none, .int .i64 1, .pointer none] := ⟨heap_alloc_at _ _⟩
  have X0 := hid (x0.stays (bl_alloc (Below.refl _ _) (.cells #[.int .i64 0, .int .i64 0, .slice none 0 0] 47)))
  have X1 : Hid (Arr ((w.alloc (.cells #[.int .i64 k, .int .i64 0, .int .i64 k, .int .i64 k, .pointer none, .int .i64 1, .pointer none] FT)).alloc (.cells #[.int .i64 0, .int .i64 0, .slice none 0 0] 47)) (w.heap.size + 1) 47 [.int .i64 0, .int .i64 0, .slice none 0 0]) := ⟨by have := heap_alloc_at (w.alloc (.cells #[.int .i64 k, .int .i64 0, .int .i64 k, .int .i64 k, .pointer none, .int .i64 1, .pointer none] FT)) (.cells #[.int .i64 0, .int .i64 0, .slice none 0 0] 47); rw [size_alloc] at this; exact this⟩
  have HB := hid hbb
  clear h hbb x0 hk
  go_enter Tryz.func36, Tryz.ntmps36
  go_wp2_with (first
    | (go_at_call 50; refine (HS.out _ HB.out).mono ?_; rintro e w3 ⟨rfl, b3⟩; have y0 := (X0.out.stays b3).cell; have X3 := hid (X1.out.stays b3); have B3 := hid (bl_tr HB.out b3); clear b3)
    | (go_at_call 51; refine (meta_any _ _).mono ?_; rintro e w4 ⟨rfl, b4⟩; have r4 := (X3.out.stays b4).cell; have f4 := (X3.out.stays b4).frozen; have B4 := hid (bl_tr B3.out b4); clear b4))
  refine bodyPost_ret (v := .agg #[.int .i64 7, .int .i64 (k : Int), .slice none 0 0]) (by rw [results_cell1 (fn := Tryz.f36) (p := 4) (ty := 47) (by kernel_rfl)]; simp [go_sem, r4, f4]) rfl ?_
  exact ⟨rfl, bl_set _ _ (bl_set _ _ (bl_set _ _ B4.out (by show _ ≤ w.heap.size + 1; omega)) (by show _ ≤ w.heap.size + 1; omega)) (by show _ ≤ w.heap.size + 1; omega)⟩
theorem meta_vs {w : World} {K : Nat → Prop} {n : Nat} {vs : List Value} {k : Nat} (hT : TAt w K n vs (.mk 7 (k : Int) [])) : ∃ a c, vs = [.int .i64 7, .int .i64 (k : Int), .slice a 0 c] := by
  obtain ⟨a, c, e⟩ := hT.form
  exact ⟨a, c, e⟩

set_option maxHeartbeats 1000000 in
set_option maxRecDepth 100000 in
theorem classO2 (w : World) (S M base : Nat) (v : Value) (n : Nat) (h : StoG w S M base v n) (k : Nat) (hk : k < n) (a : Option Addr) (c : Nat) : Calls Tryz.prog 33 #[.pointer (some ⟨S, 0, none⟩), .agg #[.int .i64 7, .int .i64 (k : Int), .slice a 0 c]] w fun e w' => e = .returned (.tuple #[.int .i64 (k : Int), .bool true]) ∧ Below w.heap.size w w' := by
  have HQ : Hid (∀ o, Calls Tryz.prog 48 #[.pointer (some ⟨S, 0, none⟩), .int .i64 (k : Int)] (w.alloc o) fun e w' => e = .returned (.int .i64 (k : Int)) ∧ w' = w.alloc o) := fun o => rootO _ S M base v n (h.stays (bl_alloc (Below.refl _ _) o)) k hk
  have h0 : ¬ ((k : Int) < 0) := by omega
  clear h hk
  go_enter Tryz.func33, Tryz.ntmps33
  go_wp2_with (go_at_call 48; refine (HQ.out _).mono ?_; rintro e w3 ⟨rfl, hw⟩; rw [hw]; clear hw w3)
  go_ret2
  exact ⟨rfl, bl_alloc (Below.refl _ _) _⟩
set_option maxHeartbeats 1000000 in
set_option maxRecDepth 100000 in
theorem size_metaO (w0 : World) (S M base : Nat) (sv : Value) (n0 : Nat) (HS : StoG w0 S M base sv n0) (n : Nat) (w : World) (vs : List Value) (t : Tp) (h0 : Below w0.heap.size w0 w) (hT : TAt w Any n vs t) (hM : OpM n0 t) (h7 : t.k = 7) : Calls Tryz.prog 23 #[.pointer (some ⟨S, 0, none⟩), .agg vs.toArray] w fun e w' => e = .returned (.int .i64 (t.cnt : Int)) ∧ Below w.heap.size w w' := by
  obtain ⟨k, hk, rfl⟩ := hM.meta h7
  obtain ⟨a, c, rfl⟩ := meta_vs hT
  have HC : Hid (∀ wz, Below w.heap.size w wz → Calls Tryz.prog 33 #[.pointer (some ⟨S, 0, none⟩), .agg #[.int .i64 7, .int .i64 (k : Int), .slice a 0 c]] wz fun e w' => e = .returned (.tuple #[.int .i64 (k : Int), .bool true]) ∧ Below wz.heap.size wz w') := fun wz hz => classO2 wz S M base sv n0 (HS.stays (bl_tr h0 hz)) k hk a c
  have HA : Hid (∀ wz, Below w.heap.size w wz → Calls Tryz.prog 34 #[.pointer (some ⟨S, 0, none⟩), .int .i64 (k : Int)] wz fun e w' => e = .returned (.agg #[.int .i64 k, .int .i64 0, .int .i64 k, .int .i64 k, .pointer none, .int .i64 1, .pointer none]) ∧ Below wz.heap.size wz w') := fun wz hz => atO wz S M base sv n0 (HS.stays (bl_tr h0 hz)) k hk
  have hfd := fldO5 (k : Int)
  have hct : (Tp.mk 7 (k : Int) []).cnt = 1 := by simp [Tp.cnt, Tp.cntL]
  rw [hct]
  have HB := hid (bl_alloc (Below.refl w.heap.size w) (.cells #[.int .i64 7, .int .i64 (k : Int), .slice a 0 c] 47))
  clear h0 hT hM HS h7 hk hct
  go_enter Tryz.func23, Tryz.ntmps23
  go_wp2_with (first
    | (go_at_call 33; refine (HC.out _ HB.out).mono ?_; rintro e w3 ⟨rfl, b3⟩; have B3 := hid (bl_tr HB.out b3); clear b3)
    | (go_at_call 34; refine (HA.out _ B3.out).mono ?_; rintro e w4 ⟨rfl, b4⟩; have B4 := hid (bl_tr B3.out b4); clear b4))
  go_ret
  exact ⟨rfl, B4.out⟩
set_option maxHeartbeats 1000000 in
set_option maxRecDepth 100000 in
theorem resolved_metaO (w0 : World) (S M base : Nat) (sv : Value) (n0 : Nat) (HS : StoG w0 S M base sv n0) (n : Nat) (w : World) (vs : List Value) (t : Tp) (h0 : Below w0.heap.size w0 w) (hT : TAt w Any n vs t) (hM : OpM n0 t) (h7 : t.k = 7) :
    Calls Tryz.prog 24 ((#[.pointer (some ⟨S, 0, none⟩)] : Array Value).push (.agg vs.toArray) ++ (#[] : Array Value)) w fun e w' => ∃ vs' n', e = .returned (.agg vs'.toArray) ∧ TAt w' (fun b => w.heap.size ≤ b) n' vs' t ∧ Below w.heap.size w w' := by
  obtain ⟨k, hk, rfl⟩ := hM.meta h7
  obtain ⟨a, c, rfl⟩ := meta_vs hT
  have HC : Hid (∀ wz, Below w.heap.size w wz → Calls Tryz.prog 33 #[.pointer (some ⟨S, 0, none⟩), .agg #[.int .i64 7, .int .i64 (k : Int), .slice a 0 c]] wz fun e w' => e = .returned (.tuple #[.int .i64 (k : Int), .bool true]) ∧ Below wz.heap.size wz w') := fun wz hz => classO2 wz S M base sv n0 (HS.stays (bl_tr h0 hz)) k hk a c
  have HA : Hid (∀ wz, Below w.heap.size w wz → Calls Tryz.prog 34 #[.pointer (some ⟨S, 0, none⟩), .int .i64 (k : Int)] wz fun e w' => e = .returned (.agg #[.int .i64 k, .int .i64 0, .int .i64 k, .int .i64 k, .pointer none, .int .i64 1, .pointer none]) ∧ Below wz.heap.size wz w') := fun wz hz => atO wz S M base sv n0 (HS.stays (bl_tr h0 hz)) k hk
  have HO : Hid (∀ wz, Below w.heap.size w wz → Calls Tryz.prog 36 #[.pointer (some ⟨S, 0, none⟩), .agg #[.int .i64 k, .int .i64 0, .int .i64 k, .int .i64 k, .pointer none, .int .i64 1, .pointer none]] wz fun e w' => e = .returned (.agg #[.int .i64 7, .int .i64 (k : Int), .slice none 0 0]) ∧ Below wz.heap.size wz w') := fun wz hz => ownO wz S M base sv n0 (HS.stays (bl_tr h0 hz)) k hk
  have hbb := bl_alloc (bl_alloc (Below.refl w.heap.size w) (.cells #[.int .i64 7, .int .i64 (k : Int), .slice a 0 c] 47)) (.cells #[.int .i64 0, .int .i64 0, .slice none 0 0] 47)
  have X1 : Hid (Arr ((w.alloc (.cells #[.int .i64 7, .int .i64 (k : Int), .slice a 0 c] 47)).alloc (.cells #[.int .i64 0, .int .i64 0, .slice none 0 0] 47)) (w.heap.size + 1) 47 [.int .i64 0, .int .i64 0, .slice none 0 0]) := ⟨by have := heap_alloc_at (w.alloc (.cells #[.int .i64 7, .int .i64 (k : Int), .slice a 0 c] 47)) (.cells #[.int .i64 0, .int .i64 0, .slice none 0 0] 47); rw [size_alloc] at this; exact this⟩
  have HB := hid hbb
  have hkr : (0 : Int) ≤ k := by omega
  have hk64 : Hid (R64 (k : Int)) := by obtain ⟨v, e, -, h2, -⟩ := (show TAt w Any (n - 1 + 1) _ _ from by cases n with | zero => exact hT.elim | succ m => exact hT); exact h2
  clear h0 hT hM HS h7 hk hbb
  rw [show ((#[.pointer (some ⟨S, 0, none⟩)] : Array Value).push (.agg [.int .i64 7, .int .i64 (k : Int), .slice a 0 c].toArray) ++ (#[] : Array Value)) = #[.pointer (some ⟨S, 0, none⟩), .agg #[.int .i64 7, .int .i64 (k : Int), .slice a 0 c]] from by simp]
  go_enter Tryz.func24, Tryz.ntmps24
  go_wp2_with (first
    | (go_at_call 33; refine (HC.out _ HB.out).mono ?_; rintro e w3 ⟨rfl, b3⟩; have B3 := hid (bl_tr HB.out b3); have X3 := hid (X1.out.stays b3); clear b3)
    | (go_at_call 34; refine (HA.out _ B3.out).mono ?_; rintro e w4 ⟨rfl, b4⟩; have bx := bl_alloc b4 (.cells #[.int .i64 k, .int .i64 0, .int .i64 k, .int .i64 k, .pointer none, .int .i64 1, .pointer none] FT); have B4 := hid (bl_tr B3.out bx); have X4 := hid (X3.out.stays bx); clear b4 bx)
    | (go_at_call 36; refine (HO.out _ B4.out).mono ?_; rintro e w5 ⟨rfl, b5⟩; have r5 := (X4.out.stays b5).cell; have f5 := (X4.out.stays b5).frozen; have B5 := hid (bl_tr B4.out b5); clear b5))
  refine bodyPost_ret (v := .agg #[.int .i64 7, .int .i64 (k : Int), .slice none 0 0]) (by rw [results_cell1 (fn := Tryz.f24) (p := 4) (ty := 47) (by kernel_rfl)]; simp [go_sem, r5, f5]) rfl ?_
  exact ⟨[_, _, _], 1, rfl, ⟨_, rfl, ⟨by simp [Tp.k], by simp [Tp.k]⟩, hk64.out, .inr ⟨rfl, _, _, rfl⟩⟩, bl_set _ _ (bl_set _ _ (bl_set _ _ B5.out (by show _ ≤ w.heap.size + 1; omega)) (by show _ ≤ w.heap.size + 1; omega)) (by show _ ≤ w.heap.size + 1; omega)⟩
/-- A function that makes the same type in new memory, of types without metas. -/
def CopyOfO (g : FuncId) (fs bs : Array Value) (w : World) (n0 n : Nat) : Prop := ∀ (wz : World) (vs : List Value) (t : Tp), Below w.heap.size w wz → TAt wz Any n vs t → t.cnt ≤ 1048576 → OpM n0 t →
    Calls Tryz.prog g (fs.push (.agg vs.toArray) ++ bs) wz fun e w' => ∃ vs' n', e = .returned (.agg vs'.toArray) ∧ TAt w' (fun b => wz.heap.size ≤ b) n' vs' t ∧ Below wz.heap.size wz w'

set_option maxHeartbeats 4000000 in
set_option maxRecDepth 100000 in
theorem unRenO_any (g0 : FuncId) (fs bs : Array Value) (w0 : World) (n0 n : Nat) (en : Enters g0) (ih : CopyOfO g0 fs bs w0 n0 n) (w : World) (vs : List Value) (t : Tp) (h0 : Below w0.heap.size w0 w) (hT : TAt w Any (n + 1) vs t) (hcnt : t.cnt ≤ 1048576) (hM : OpM n0 t) :
    Calls Tryz.prog 35 #[.agg vs.toArray, .func (.func g0) fs bs] w fun e w' => ∃ vs' n', e = .returned (.agg vs'.toArray) ∧ TAt w' (fun b => w.heap.size ≤ b) n' vs' t ∧ Below w.heap.size w w' := by
  unfold Enters at en
  obtain ⟨v, rfl, hk64, hn64, hL⟩ := hT.open_
  have hlen : t.ks.length ≤ 1048576 := by have := Tp.cntL_len t.ks; obtain ⟨k, m, ks⟩ := t; rw [Tp.cnt] at hcnt; simp only [Tp.ks] at this ⊢; omega
  have hmc : Hid (∀ x, x ∈ t.ks → x.cnt ≤ 1048576) := fun x hx => by have := Tp.cnt_le_cntL hx; obtain ⟨k, m, ks⟩ := t; rw [Tp.cnt] at hcnt; simp only [Tp.ks] at this; omega
  have hmm : Hid (∀ x, x ∈ t.ks → OpM n0 x) := fun x hx => hM.kid hx
  obtain ⟨a0, c0, e0, -⟩ := hL.form
  subst e0
  have HL : Hid (TAtL w Any n (.slice a0 t.ks.length c0) t.ks) := hL
  have HI : Hid (CopyOfO g0 fs bs w0 n0 n) := ih
  have H0 : Hid (Below w0.heap.size w0 w) := h0
  have hB0 : Hid (∀ o', Arr ((w.alloc (.cells #[.int .i64 t.k, .int .i64 t.n, .slice a0 t.ks.length c0] 47)).alloc o') w.heap.size 47 [.int .i64 t.k, .int .i64 t.n, .slice a0 t.ks.length c0]) := fun o' => Arr.stays ⟨heap_alloc_at _ _⟩ (bl_alloc (Below.refl _ _) _)
  have hB1 : Hid (∀ o, Arr ((w.alloc o).alloc (.cells #[.int .i64 0, .int .i64 0, .slice none 0 0] 47)) (w.heap.size + 1) 47 [.int .i64 0, .int .i64 0, .slice none 0 0]) := fun o => ⟨by have := heap_alloc_at (w.alloc o) (.cells #[.int .i64 0, .int .i64 0, .slice none 0 0] 47); rw [size_alloc] at this; exact this⟩
  have HBB : Hid (∀ o o', Below w.heap.size w ((w.alloc o).alloc o')) := fun o o' => bl_alloc (bl_alloc (Below.refl _ _) _) _
  have HK64 := hid hk64
  have HN64 := hid hn64
  clear hT hL hcnt hk64 hn64 ih h0 hM
  by_cases hz : t.ks.length = 0
  · have hks : Hid (t.ks = []) := List.eq_nil_of_length_eq_zero hz
    have ht : ((t.ks.length : Int) == 0) = true := by rw [hz]; rfl
    clear hz
    go_enter Tryz.func35, Tryz.ntmps35
    go_wp2
    have q2 := (hB1.out (.cells #[.int .i64 t.k, .int .i64 t.n, .slice a0 t.ks.length c0] 47)).cell
    have q3 := (hB1.out (.cells #[.int .i64 t.k, .int .i64 t.n, .slice a0 t.ks.length c0] 47)).frozen
    refine bodyPost_ret (v := .agg #[.int .i64 t.k, .int .i64 t.n, .slice none 0 0]) (by rw [results_cell1 (fn := Tryz.f35) (p := 4) (ty := 47) (by kernel_rfl)]; simp [go_sem, q2, q3]) rfl ?_
    refine ⟨[_, _, _], 1, rfl, ?_, HBB.out _ _⟩
    have ht2 : t = .mk t.k t.n [] := by have := hks.out; obtain ⟨k, m, ks⟩ := t; simp only [Tp.ks] at this; rw [this]; rfl
    rw [ht2]
    exact ⟨_, rfl, HK64.out, HN64.out, .inr ⟨rfl, _, _, rfl⟩⟩
  · have ht : ((t.ks.length : Int) == 0) = false := by rw [beq_eq_false_iff_ne]; omega
    obtain ⟨M, hM, hmk⟩ := made_cells t.ks.length
    have hmk2 : ∀ w, (Instr.makeSlice 45 (.int .i64 (t.ks.length : Int)) (.int .i64 (t.ks.length : Int))).run Tryz.prog w = .ok (.slice (some ⟨w.heap.size, 0, none⟩) t.ks.length t.ks.length) (w.alloc (.cells M 47)) := fun w => hmk w hlen
    have HMM := hid hM
    clear hz hmk hM
    have q1 := fun o' o => ((hB0.out o').stays (bl_alloc (Below.refl _ _) o)).cell
    go_enter Tryz.func35, Tryz.ntmps35
    go_wp2
    obtain ⟨w3, hw3⟩ : ∃ w3, w3 = (w.alloc (.cells #[.int .i64 t.k, .int .i64 t.n, .slice a0 t.ks.length c0] 47)).alloc (.cells #[.int .i64 0, .int .i64 0, .slice none 0 0] 47) := ⟨_, rfl⟩
    have HA : Hid (Arr w3 w.heap.size 47 [.int .i64 t.k, .int .i64 t.n, .slice a0 t.ks.length c0]) := by rw [hw3]; exact hB0.out _
    have HR : Hid (Arr w3 (w.heap.size + 1) 47 [.int .i64 0, .int .i64 0, .slice none 0 0]) := by rw [hw3]; exact hB1.out _
    have HBW : Hid (Below w.heap.size w w3) := by rw [hw3]; exact HBB.out _ _
    have hs3 : w3.heap.size = w.heap.size + 2 := by rw [hw3, size_alloc, size_alloc]
    have hst : Rnw w idf t (.slice a0 t.ks.length c0) (w.heap.size + 2) 0 0 M.toList (w3.alloc (.cells M 47)) := by
      exact ⟨bl_alloc HBW.out _, HA.out.stays (bl_alloc (Below.refl _ _) _), HR.out.stays (bl_alloc (Below.refl _ _) _), ⟨by rw [← hs3, heap_alloc_at]⟩, Nat.le_refl _, by rw [Array.length_toList]; exact HMM.out, fun i x hi => absurd hi (Nat.not_lt_zero _)⟩
    rw [hw3] at hst
    have HS := hid hst
    clear hst HA HR hB0 hB1 HBB HMM hmk2 q1 HBW hs3 hw3 w3
    generalize ((w.alloc (.cells #[.int .i64 t.k, .int .i64 t.n, .slice a0 t.ks.length c0] 47)).alloc (.cells #[.int .i64 0, .int .i64 0, .slice none 0 0] 47)).alloc (.cells M 47) = w4 at HS ⊢
    generalize hgg : w.heap.size + 2 = g at HS ⊢
    have HGG := hid hgg
    clear hgg
    go_loopw [24] (fun v wr => ∃ (k N : Nat) (cur : List Value), v = .int .i64 k ∧ k ≤ t.ks.length ∧ Hid (Rnw w idf t (.slice a0 t.ks.length c0) g k N cur wr)) (fun v _ => t.ks.length - (intOf v).toNat)
    case atStart => exact ⟨0, _, _, rfl, Nat.zero_le _, HS⟩
    case round =>
      obtain ⟨k, N, cur, rfl, hkl, hR⟩ := hrel
      clear HS w4
      by_cases hlt : k < t.ks.length
      · obtain ⟨b, o, rfl⟩ : ∃ b o, a0 = some ⟨b, o, none⟩ := by
          rcases HL.out with ⟨b, o, c, hv, -⟩ | ⟨h0, -⟩
          · injection hv with e1 e2 e3; exact ⟨b, o, e1⟩
          · rw [h0] at hlt; exact absurd hlt (Nat.not_lt_zero _)
        obtain ⟨x, hxk⟩ : ∃ x, t.ks[k]? = some x := ⟨_, List.getElem?_eq_getElem hlt⟩
        obtain ⟨vx, tx, x0, x1, x2, -, hb⟩ := HL.out.elem hxk
        have y0 := (hR.out.bl.cell (p := ⟨b, o + k * 3, none⟩) hb).trans x0
        have y1 := (hR.out.bl.cell (p := ⟨b, o + k * 3 + 1, none⟩) hb).trans x1
        have y2 := (hR.out.bl.cell (p := ⟨b, o + k * 3 + 2, none⟩) hb).trans x2
        obtain ⟨ax, cx, ex⟩ := tx.form
        simp only [List.cons.injEq, and_true, true_and] at ex
        subst ex
        have hQ : Hid (∀ oo, Calls Tryz.prog g0 (fs.push (.agg #[.int .i64 x.k, .int .i64 x.n, .slice ax x.ks.length cx]) ++ bs) (wr.alloc oo) fun e w' => ∃ a n' c, e = .returned (.agg #[.int .i64 x.k, .int .i64 x.n, .slice a x.ks.length c]) ∧ TAt w' (fun b => wr.heap.size < b) n' [.int .i64 x.k, .int .i64 x.n, .slice a x.ks.length c] x ∧ Below (wr.alloc oo).heap.size (wr.alloc oo) w') := by
          intro oo
          refine (HI.out (wr.alloc oo) _ x (bl_tr H0.out (bl_alloc hR.out.bl _)) (tx.below (bl_alloc hR.out.bl _)) (hmc.out x (List.mem_of_getElem? hxk)) (hmm.out x (List.mem_of_getElem? hxk))).mono ?_
          rintro e w' ⟨vs', n', rfl, h1, h2⟩
          obtain ⟨a, c, rfl⟩ := h1.form
          exact ⟨a, n', c, rfl, h1.move (Keeps.refl _ _) (fun b hb => by rw [size_alloc] at hb; omega), h2⟩
        have HX := hid hxk
        have hg := hR.out.arr.lt
        have hcl : ∀ j, j < 3 → k * 3 + j < cur.length := fun j hj => by have := hR.out.len; omega
        obtain ⟨u0, hu0⟩ : ∃ u, cur[k * 3]? = some u := ⟨_, List.getElem?_eq_getElem (hcl 0 (by omega))⟩
        obtain ⟨u1, hu1⟩ : ∃ u, cur[k * 3 + 1]? = some u := ⟨_, List.getElem?_eq_getElem (hcl 1 (by omega))⟩
        obtain ⟨u2, hu2⟩ : ∃ u, cur[k * 3 + 2]? = some u := ⟨_, List.getElem?_eq_getElem (hcl 2 (by omega))⟩
        clear tx x0 x1 x2 hb hxk hcl
        go_wp2_with (refine (hQ.out _).mono ?_; rintro e w5 ⟨a5, n5, c5, rfl, hT5, hb5⟩; have HR5 : Hid (Rnw w idf t _ g k N cur w5) := (hR.out.stays (bl_alloc (Below.refl _ _) _)).stays hb5; have hf5 := HR5.out.arr.frozen; have z0 := (HR5.out.arr.cell (k * 3)).trans hu0; have z1 := (HR5.out.arr.cell (k * 3 + 1)).trans hu1; have z2 := (HR5.out.arr.cell (k * 3 + 2)).trans hu2; have HT5 : Hid (TAt w5 (fun b => g < b) n5 _ x) := hT5.move (Keeps.refl _ _) (fun b hb => by omega); clear hT5 hb5)
        go_roundw
        case rel => exact ⟨k + 1, _, _, by go_num, by omega, HR5.out.store hlt HX.out (Tp.ren_idf x) HT5.out⟩
        case measure => simp [intOf]; omega
      · obtain rfl : k = t.ks.length := by omega
        have b5 := hR.out.box.cell
        have b6 := hR.out.res.cell
        have b7 := hR.out.res.frozen
        go_wp2
        refine bodyPost_ret (v := .agg #[.int .i64 t.k, .int .i64 t.n, .slice (some ⟨g, 0, none⟩) t.ks.length t.ks.length]) (by rw [results_cell1 (fn := Tryz.f35) (p := 4) (ty := 47) (by kernel_rfl)]; simp [go_sem, b6, b7]) rfl ?_
        have hK : ∀ (W : World) j u, Keeps (fun b => w.heap.size + 2 ≤ b) W (W.setCell ⟨w.heap.size + 1, j, none⟩ u) := fun W j u => Keeps.set (K := fun b => w.heap.size + 2 ≤ b) (p := ⟨w.heap.size + 1, j, none⟩) (fun h => by simp at h) u
        refine ⟨[_, _, _], N + 1, rfl, ?_, bl_set _ _ (bl_set _ _ (bl_set _ _ hR.out.bl (by show _ ≤ w.heap.size + 1; omega)) (by show _ ≤ w.heap.size + 1; omega)) (by show _ ≤ w.heap.size + 1; omega)⟩
        exact un_idf (hR.out.fin (((hK _ _ _).trans (hK _ _ _)).trans (hK _ _ _)) HK64.out HN64.out hlen)


def USizeO (w0 : World) (S : Nat) (n0 n : Nat) : Prop := ∀ (w : World) (vs : List Value) (t : Tp), Below w0.heap.size w0 w → TAt w Any n vs t → t.cnt ≤ 1000 → OpM n0 t → Calls Tryz.prog 23 #[.pointer (some ⟨S, 0, none⟩), .agg vs.toArray] w fun e w' => e = .returned (.int .i64 (t.cnt : Int)) ∧ Below w.heap.size w w'
set_option maxHeartbeats 2000000 in
set_option maxRecDepth 100000 in
theorem usizeO_step (w0 : World) (S M base : Nat) (sv : Value) (n0 : Nat) (HS : StoG w0 S M base sv n0) (n : Nat) (ih : USizeO w0 S n0 n) : USizeO w0 S n0 (n + 1) := by
  intro w vs t h0 hT hcnt hM
  by_cases h7 : t.k = 7
  · exact size_metaO w0 S M base sv n0 HS (n + 1) w vs t h0 hT hM h7
  obtain ⟨v, rfl, -, -, hL⟩ := hT.open_
  obtain ⟨a0, c0, e0, hml⟩ := hL.form
  subst e0
  unfold maxLen at hml
  have HL : Hid (TAtL w Any n (.slice a0 t.ks.length c0) t.ks) := hL
  have HI : Hid (USizeO w0 S n0 n) := ih
  have HM := hid hM
  have hct : t.cnt = 1 + Tp.cntL t.ks := cnt_ks t
  have hcl : 1 + Tp.cntL t.ks ≤ 1000 := by omega
  have HCT := hid hct
  have HC : Hid (∀ o, Calls Tryz.prog 33 #[.pointer (some ⟨S, 0, none⟩), .agg #[.int .i64 t.k, .int .i64 t.n, .slice a0 t.ks.length c0]] (w.alloc o) fun e w' => e = .returned (.tuple #[.int .i64 0, .bool false]) ∧ Below (w.alloc o).heap.size (w.alloc o) w') := fun o => class_no (w.alloc o) S t.k t.n (.bool true) h7 a0 t.ks.length c0
  have hB0 : Hid (Arr (w.alloc (.cells #[.int .i64 t.k, .int .i64 t.n, .slice a0 t.ks.length c0] 47)) w.heap.size 47 [.int .i64 t.k, .int .i64 t.n, .slice a0 t.ks.length c0]) := ⟨heap_alloc_at _ _⟩
  have HBB : Hid (∀ o, Below w.heap.size w (w.alloc o)) := fun o => bl_alloc (Below.refl _ _) _
  have H0 := hid h0
  clear hT hL ih hcnt hM hct h7 HS h0
  go_enter Tryz.func23, Tryz.ntmps23
  go_wp2_with (go_at_call 33; refine (HC.out _).mono ?_; rintro e w3 ⟨rfl, hb3⟩; have q1 := (hB0.out.stays hb3).cell)
  have HB3 : Hid (Below w.heap.size w w3) := bl_tr (HBB.out _) hb3
  clear HC hB0 HBB hb3 q1
  go_loopw [7, 24] (fun nd v wr => ∃ k : Nat, v = .int .i64 k ∧ k ≤ t.ks.length ∧ nd = .int .i64 ((1 + Tp.cntL (t.ks.take k) : Nat) : Int) ∧ Hid (Below w.heap.size w wr)) (fun _ v _ => t.ks.length - (intOf v).toNat)
  case atStart => exact ⟨0, rfl, Nat.zero_le _, by simp [Tp.cntL], HB3⟩
  case round =>
    obtain ⟨k, rfl, hkl, rfl, hR⟩ := hrel
    clear HB3
    by_cases hlt : k < t.ks.length
    · obtain ⟨b, o, rfl⟩ : ∃ b o, a0 = some ⟨b, o, none⟩ := by
        rcases HL.out with ⟨b, o, c, hv, -⟩ | ⟨h0, -⟩
        · injection hv with e1 e2 e3; exact ⟨b, o, e1⟩
        · rw [h0] at hlt; exact absurd hlt (Nat.not_lt_zero _)
      obtain ⟨x, hxk⟩ : ∃ x, t.ks[k]? = some x := ⟨_, List.getElem?_eq_getElem hlt⟩
      obtain ⟨vx, tx, x0, x1, x2, -, hb⟩ := HL.out.elem hxk
      have y0 := (hR.out.cell (p := ⟨b, o + k * 3, none⟩) hb).trans x0
      have y1 := (hR.out.cell (p := ⟨b, o + k * 3 + 1, none⟩) hb).trans x1
      have y2 := (hR.out.cell (p := ⟨b, o + k * 3 + 2, none⟩) hb).trans x2
      obtain ⟨ax, cx, ex⟩ := tx.form
      simp only [List.cons.injEq, and_true, true_and] at ex
      subst ex
      have hmem := List.mem_of_getElem? hxk
      have htk : t.ks.take (k + 1) = t.ks.take k ++ [x] := by
        rw [List.take_add_one, hxk]; rfl
      have hsum : Tp.cntL (t.ks.take (k + 1)) = Tp.cntL (t.ks.take k) + x.cnt := by rw [htk, cntL_snoc]
      have hle := cntL_take_le t.ks (k + 1)
      have hQ : Hid (∀ oo, Calls Tryz.prog 23 #[.pointer (some ⟨S, 0, none⟩), .agg #[.int .i64 x.k, .int .i64 x.n, .slice ax x.ks.length cx]] (wr.alloc oo) fun e w' => e = .returned (.int .i64 (x.cnt : Int)) ∧ Below wr.heap.size wr w') := fun oo => (HI.out (wr.alloc oo) _ x (H0.out.trans ((bl_alloc hR.out oo).mono H0.out.size)) (tx.below (bl_alloc hR.out _)) (by omega) (HM.out.kid hmem)).mono fun e w' ⟨h1, h2⟩ => ⟨h1, bl_tr (bl_alloc (Below.refl _ _) _) h2⟩
      obtain ⟨p, hp⟩ : ∃ p, p = Tp.cntL (t.ks.take k) := ⟨_, rfl⟩
      obtain ⟨q, hq⟩ : ∃ q, q = x.cnt := ⟨_, rfl⟩
      rw [← hp, ← hq] at hsum
      rw [← hq] at hQ
      have hpq : (1 + p + q : Nat) ≤ 1000 := by omega
      have hd : decide ((1 : Int) + (p : Int) + (q : Int) > 1000) = false := by simp; omega
      have hd2 : ¬ ((1000 : Int) < (1 : Int) + (p : Int) + (q : Int)) := by omega
      have HSM : Hid (Tp.cntL (t.ks.take (k + 1)) = p + q) := hsum
      have hpp : ((1 + Tp.cntL (t.ks.take k) : Nat) : Int) = 1 + (p : Int) := by rw [← hp]; omega
      rw [hpp]
      clear tx x0 x1 x2 hb hxk hmem htk hsum hle hp hq hpp
      go_wp2_with (go_at_call 23; refine (hQ.out _).mono ?_; rintro e w5 ⟨rfl, hb5⟩; have HB5 := hid hb5; clear hb5)
      go_roundw
      case rel => exact ⟨k + 1, by go_num, by omega, by rw [HSM.out]; congr 1; omega, bl_tr hR.out HB5.out⟩
      case measure => simp [intOf]; omega
    · obtain rfl : k = t.ks.length := by omega
      have HE := hid (show 1 + Tp.cntL (t.ks.take t.ks.length) = t.cnt by rw [List.take_length, HCT.out])
      go_wp2
      go_ret
      exact ⟨congrArg (fun z => Ending.returned (.int .i64 z)) (by have := HE.out; omega), hR.out⟩
theorem usizeO_any (w0 : World) (S M base : Nat) (sv : Value) (n0 : Nat) (HS : StoG w0 S M base sv n0) : ∀ n, USizeO w0 S n0 n
  | 0 => fun w vs t _ hT => hT.elim
  | n + 1 => usizeO_step w0 S M base sv n0 HS n (usizeO_any w0 S M base sv n0 HS n)

theorem enters_resolvedO : Enters 24 := enters_of Tryz.func24 (by kernel_rfl) rfl
set_option maxHeartbeats 1000000 in
set_option maxRecDepth 100000 in
theorem uresolvedO_step (S M base : Nat) (sv : Value) (n0 : Nat) (w0 : World) (HS : StoG w0 S M base sv n0) (n : Nat) (ih : CopyOfO 24 #[.pointer (some ⟨S, 0, none⟩)] #[] w0 n0 n) : CopyOfO 24 #[.pointer (some ⟨S, 0, none⟩)] #[] w0 n0 (n + 1) := by
  intro w vs t h0 hT hc hM
  by_cases h7 : t.k = 7
  · exact resolved_metaO w0 S M base sv n0 HS (n + 1) w vs t h0 hT hM h7
  have HR : Hid (∀ wz, Below w.heap.size w wz → Calls Tryz.prog 35 #[.agg vs.toArray, .func (.func 24) #[.pointer (some ⟨S, 0, none⟩)] #[]] wz fun e w' => ∃ a c n', e = .returned (.agg #[.int .i64 t.k, .int .i64 t.n, .slice a t.ks.length c]) ∧ TAt w' (fun b => wz.heap.size ≤ b) n' [.int .i64 t.k, .int .i64 t.n, .slice a t.ks.length c] t ∧ Below wz.heap.size wz w') := by
    intro wz hz
    refine (unRenO_any _ _ _ w0 n0 n enters_resolvedO ih wz vs t (bl_tr h0 hz) (hT.below hz) hc hM).mono ?_
    rintro e w' ⟨vs', n', rfl, h1, h2⟩
    obtain ⟨a, c, rfl⟩ := h1.form
    exact ⟨a, c, n', rfl, h1, h2⟩
  obtain ⟨a0, c0, rfl⟩ := hT.form
  have hk7 := h7
  have HC : Hid (∀ wz, Calls Tryz.prog 33 #[.pointer (some ⟨S, 0, none⟩), .agg #[.int .i64 t.k, .int .i64 t.n, .slice a0 t.ks.length c0]] wz fun e w' => e = .returned (.tuple #[.int .i64 0, .bool false]) ∧ Below wz.heap.size wz w') := fun wz => class_no wz S t.k t.n (.bool true) hk7 a0 t.ks.length c0
  have hA : Hid (∀ o', Arr ((w.alloc (.cells #[.int .i64 t.k, .int .i64 t.n, .slice a0 t.ks.length c0] 47)).alloc o') w.heap.size 47 [.int .i64 t.k, .int .i64 t.n, .slice a0 t.ks.length c0]) := fun o' => Arr.stays ⟨heap_alloc_at _ _⟩ (bl_alloc (Below.refl _ _) _)
  have hB1 : Hid (∀ o, Arr ((w.alloc o).alloc (.cells #[.int .i64 0, .int .i64 0, .slice none 0 0] 47)) (w.heap.size + 1) 47 [.int .i64 0, .int .i64 0, .slice none 0 0]) := fun o => ⟨by have := heap_alloc_at (w.alloc o) (.cells #[.int .i64 0, .int .i64 0, .slice none 0 0] 47); rw [size_alloc] at this; exact this⟩
  have HBB : Hid (∀ o o', Below w.heap.size w ((w.alloc o).alloc o')) := fun o o' => bl_alloc (bl_alloc (Below.refl _ _) _) _
  have hsz : Hid (∀ o o', ((w.alloc o).alloc o').heap.size = w.heap.size + 2) := fun o o' => by rw [size_alloc, size_alloc]
  clear hT hc hM ih h0 hk7 h7 HS
  rw [show ((#[.pointer (some ⟨S, 0, none⟩)] : Array Value).push (.agg [.int .i64 t.k, .int .i64 t.n, .slice a0 t.ks.length c0].toArray) ++ (#[] : Array Value)) = #[.pointer (some ⟨S, 0, none⟩), .agg #[.int .i64 t.k, .int .i64 t.n, .slice a0 t.ks.length c0]] from by simp]
  go_enter Tryz.func24, Tryz.ntmps24
  go_wp2_with (first
    | (go_at_call 33; refine (HC.out _).mono ?_; rintro e w3 ⟨rfl, b3⟩; have a3 := ((hA.out _).stays b3).cell; have X3 := hid ((hB1.out _).stays b3); have B3 := hid (bl_tr (HBB.out _ _) b3); have hs3 : w.heap.size + 2 ≤ w3.heap.size := (by have := b3.size; rw [hsz.out] at this; exact this); clear b3 HC)
    | (go_at_call 35; refine (HR.out _ B3.out).mono ?_; rintro e w4 ⟨a, c, n', rfl, hT4, hb4⟩; have q2 := (X3.out.stays hb4).cell; have q3 := (X3.out.stays hb4).frozen))
  refine bodyPost_ret (v := .agg #[.int .i64 t.k, .int .i64 t.n, .slice a t.ks.length c]) (by rw [results_cell1 (fn := Tryz.f24) (p := 4) (ty := 47) (by kernel_rfl)]; simp [go_sem, q2, q3]) rfl ?_
  have hK : ∀ (W : World) j u, Keeps (fun b => w3.heap.size ≤ b) W (W.setCell ⟨w.heap.size + 1, j, none⟩ u) := fun W j u => Keeps.set (K := fun b => w3.heap.size ≤ b) (p := ⟨w.heap.size + 1, j, none⟩) (show ¬ w3.heap.size ≤ w.heap.size + 1 by omega) u
  refine ⟨[_, _, _], n', rfl, hT4.move (((hK _ _ _).trans (hK _ _ _)).trans (hK _ _ _)) (fun b hb => by omega), bl_set _ _ (bl_set _ _ (bl_set _ _ (bl_tr B3.out hb4) (by show _ ≤ w.heap.size + 1; omega)) (by show _ ≤ w.heap.size + 1; omega)) (by show _ ≤ w.heap.size + 1; omega)⟩
theorem uresolvedO_any (S M base : Nat) (sv : Value) (n0 : Nat) (w0 : World) (HS : StoG w0 S M base sv n0) : ∀ n, CopyOfO 24 #[.pointer (some ⟨S, 0, none⟩)] #[] w0 n0 n
  | 0 => fun w vs t _ hT => hT.elim
  | n + 1 => uresolvedO_step S M base sv n0 w0 HS n (uresolvedO_any S M base sv n0 w0 HS n)

theorem unRes2O {fn : Func} {p a : Tmp} {ty : TypeId} (h : fn.results = #[.cell p ty, .tmp a]) (tmps : Array Value) (P : Program) (w : World) :
    (results fn tmps).run P w = ((asAddr (tmps.getD p undef)).run P w).andThen fun ad w₁ => ((loadVar ty ad).run P w₁).andThen fun v w₂ => .ok (.tuple #[v, tmps.getD a undef]) w₂ := by
  simp only [results, h]
  simp [Sem.run_bind, Result.andThen]
set_option maxHeartbeats 2000000 in
set_option maxRecDepth 100000 in
theorem ResolveO (w : World) (S M base : Nat) (sv : Value) (n0 : Nat) (HS : StoG w S M base sv n0) (n : Nat) (vs : List Value) (t : Tp) (hT : TAt w Any n vs t) (hc : t.cnt ≤ 1000) (hM : OpM n0 t) : Calls Tryz.prog 15 #[.pointer (some ⟨S, 0, none⟩), .agg vs.toArray] w fun e w' => (∃ a c N', e = .returned (.tuple #[.agg #[.int .i64 t.k, .int .i64 t.n, .slice a t.ks.length c], .int .i64 0]) ∧ TAt w' (fun b => w.heap.size ≤ b) N' [.int .i64 t.k, .int .i64 t.n, .slice a t.ks.length c] t) ∧ Below w.heap.size w w' := by
  have HZ : Hid (∀ wz, Below w.heap.size w wz → Calls Tryz.prog 23 #[.pointer (some ⟨S, 0, none⟩), .agg vs.toArray] wz fun e w' => e = .returned (.int .i64 (t.cnt : Int)) ∧ Below wz.heap.size wz w') := fun wz hz => usizeO_any w S M base sv n0 HS n wz vs t hz (hT.below hz) hc hM
  have HR : Hid (∀ wz, Below w.heap.size w wz → Calls Tryz.prog 24 #[.pointer (some ⟨S, 0, none⟩), .agg vs.toArray] wz fun e w' => ∃ a c n', e = .returned (.agg #[.int .i64 t.k, .int .i64 t.n, .slice a t.ks.length c]) ∧ TAt w' (fun b => wz.heap.size ≤ b) n' [.int .i64 t.k, .int .i64 t.n, .slice a t.ks.length c] t ∧ Below wz.heap.size wz w') := fun wz hz => by
    refine (uresolvedO_any S M base sv n0 w HS n wz vs t hz (hT.below hz) (by omega) hM).mono ?_
    rintro e w' ⟨vs', n', rfl, h1, h2⟩
    obtain ⟨a, c, rfl⟩ := h1.form
    exact ⟨a, c, n', rfl, h1, h2⟩
  obtain ⟨a0, c0, rfl⟩ := hT.form
  obtain ⟨q, hq⟩ : ∃ q, q = t.cnt := ⟨_, rfl⟩
  rw [← hq] at HZ
  have hq2 : ¬ ((1000 : Int) < (q : Int)) := by omega
  have hbb := bl_alloc (bl_alloc (Below.refl w.heap.size w) (.cells #[.int .i64 t.k, .int .i64 t.n, .slice a0 t.ks.length c0] 47)) (.cells #[.int .i64 0, .int .i64 0, .slice none 0 0] 47)
  have X1 : Hid (Arr ((w.alloc (.cells #[.int .i64 t.k, .int .i64 t.n, .slice a0 t.ks.length c0] 47)).alloc (.cells #[.int .i64 0, .int .i64 0, .slice none 0 0] 47)) (w.heap.size + 1) 47 [.int .i64 0, .int .i64 0, .slice none 0 0]) := ⟨by have := heap_alloc_at (w.alloc (.cells #[.int .i64 t.k, .int .i64 t.n, .slice a0 t.ks.length c0] 47)) (.cells #[.int .i64 0, .int .i64 0, .slice none 0 0] 47); rw [size_alloc] at this; exact this⟩
  have x0 : Arr (w.alloc (.cells #[.int .i64 t.k, .int .i64 t.n, .slice a0 t.ks.length c0] 47)) w.heap.size 47 [.int .i64 t.k, .int .i64 t.n, .slice a0 t.ks.length c0] := ⟨heap_alloc_at _ _⟩
  have X0 := hid (x0.stays (bl_alloc (Below.refl _ _) (.cells #[.int .i64 0, .int .i64 0, .slice none 0 0] 47)))
  have HB := hid hbb
  clear hT hM HS hc hq hbb x0
  go_enter Tryz.func15, Tryz.ntmps15
  go_wp2_with (first
    | (go_at_call 23; refine (HZ.out _ HB.out).mono ?_; rintro e w3 ⟨rfl, b3⟩; have y0 := (X0.out.stays b3).cell; have B3 := hid (bl_tr HB.out b3); have X3 := hid (X1.out.stays b3); clear b3)
    | (go_at_call 24; refine (HR.out _ B3.out).mono ?_; rintro e w4 ⟨a, c, n', rfl, hT4, b4⟩; have r4 := (X3.out.stays b4).cell; have f4 := (X3.out.stays b4).frozen; have HT4 := hid hT4; have HB4 := hid b4; have B4 := hid (bl_tr B3.out b4); clear hT4 b4))
  refine bodyPost_ret (v := .tuple #[.agg #[.int .i64 t.k, .int .i64 t.n, .slice a t.ks.length c], .int .i64 0]) (by rw [unRes2O (fn := Tryz.f15) (p := 4) (a := 5) (ty := 47) (by kernel_rfl)]; simp [go_sem, r4, f4]) rfl ?_
  have hs3 : w.heap.size + 1 < w3.heap.size := X3.out.lt
  have hK : ∀ (W : World) j u, Keeps (fun b => w3.heap.size ≤ b) W (W.setCell ⟨w.heap.size + 1, j, none⟩ u) := fun W j u => Keeps.set (K := fun b => w3.heap.size ≤ b) (p := ⟨w.heap.size + 1, j, none⟩) (show ¬ w3.heap.size ≤ w.heap.size + 1 by omega) u
  exact ⟨⟨a, c, n', rfl, HT4.out.move (((hK _ _ _).trans (hK _ _ _)).trans (hK _ _ _)) (fun b hb => by omega)⟩, bl_set _ _ (bl_set _ _ (bl_set _ _ B4.out (by show _ ≤ w.heap.size + 1; omega)) (by show _ ≤ w.heap.size + 1; omega)) (by show _ ≤ w.heap.size + 1; omega)⟩
end Go.Proofs.YtjodgnkhociaaaaGreat
