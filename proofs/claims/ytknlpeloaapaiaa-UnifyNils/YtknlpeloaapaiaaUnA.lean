/- Unify and Resolve, in the cases of the chapter's first example. -/
import Derived.Test.YtknlpeloaapaiaaUn9
namespace Go.Proofs.Ytknlpeloaapaiaa
open Go.RowKit Go.Shelf
set_option linter.unusedVariables false
set_option linter.unusedSimpArgs false

/-- What Unify leaves alone: all but the list of pointers. -/
structure Fu (g : Nat) (w w' : World) : Prop where
  os : w'.os = w.os
  tape : w'.tape = w.tape
  output : w'.output = w.output
  size : w.heap.size ≤ w'.heap.size
  block : ∀ b, b < w.heap.size → b ≠ g → w'.heap[b]? = w.heap[b]?
theorem Fu.of {J g : Nat} {w w1 w' : World} (hb : Below w.heap.size w w1) (hf : Fr J g (.slice none 0 0) w1 w') (hJ : w.heap.size ≤ J) : Fu g w w' :=
  ⟨hf.os.trans hb.os, hf.tape.trans hb.tape, hf.output.trans hb.output, Nat.le_trans hb.size hf.size, fun b hl h1 => (hf.block b (Nat.lt_of_lt_of_le hl hb.size) (by omega) h1 (fun e => by cases e)).trans (hb.block b hl)⟩
theorem Fu.of_below {g : Nat} {w w' : World} (hb : Below w.heap.size w w') : Fu g w w' := ⟨hb.os, hb.tape, hb.output, hb.size, fun b hl _ => hb.block b hl⟩
theorem Fu.arr {g : Nat} {w w' : World} (h : Fu g w w') {b : Nat} {T : TypeId} {cur : List Value} (hb : Arr w b T cur) (h2 : b ≠ g) : Arr w' b T cur := ⟨by rw [h.block b hb.lt h2]; exact hb.b⟩
theorem Fu.below {g : Nat} {w w' : World} (h : Fu g w w') {B : Nat} (hB : B ≤ w.heap.size) (h2 : B ≤ g) : Below B w w' := ⟨h.os, h.tape, h.output, h.size, fun k hk => h.block k (by omega) (by omega)⟩
theorem Fu.keeps {g : Nat} {w w' : World} (h : Fu g w w') {K : Nat → Prop} (h1 : ∀ b, K b → b ≠ g) : Keeps K w w' := fun b o v hb hv =>
  (World.cell?_of_block (w := w) (h.block b (World.block_lt_of_cell? w _ hv) (h1 b hb))).trans hv

set_option maxHeartbeats 1000000 in
set_option maxRecDepth 100000 in
theorem Unify_1 (w : World) (S g cap : Nat) (mv : Value) (more : List Value) (h : Sto w S g cap mv none none more) : Calls Try.prog 8 #[.pointer (some ⟨S, 0, none⟩), .agg #[.int .i64 7, .int .i64 0, .slice none 0 0], .agg #[.int .i64 7, .int .i64 1, .slice none 0 0]] w fun e w' => e = .returned (.int .i64 0) ∧ (∃ q0 q1 : Nat, Sto w' S g cap mv (some ⟨q0, 0, none⟩) (some ⟨q1, 0, none⟩) more ∧ Arr w' q1 FT [.int .i64 1, .int .i64 1, .int .i64 0, .int .i64 1, .pointer none, .int .i64 1, .pointer none] ∧ Arr w' q0 FT [.int .i64 1, .int .i64 0, .int .i64 0, .int .i64 0, .pointer none, .int .i64 0, .pointer none] ∧ w.heap.size ≤ q0 ∧ w.heap.size ≤ q1) ∧ Fu g w w' := by
  have W0 : Hid (Below w.heap.size w (((w.alloc (.cells #[.int .i64 7, .int .i64 0, .slice none 0 0] 24)).alloc (.cells #[.int .i64 7, .int .i64 1, .slice none 0 0] 24)).alloc (.cells #[.pointer (some ⟨S, 0, none⟩), .slice none 0 0] JT))) := bl_alloc (bl_alloc (bl_alloc (Below.refl _ _) _) _) _
  have HJ : Hid (Jn (((w.alloc (.cells #[.int .i64 7, .int .i64 0, .slice none 0 0] 24)).alloc (.cells #[.int .i64 7, .int .i64 1, .slice none 0 0] 24)).alloc (.cells #[.pointer (some ⟨S, 0, none⟩), .slice none 0 0] JT)) (w.heap.size + 2) S g cap mv none none more (.slice none 0 0) 0) := ⟨⟨by have := heap_alloc_at ((w.alloc (.cells #[.int .i64 7, .int .i64 0, .slice none 0 0] 24)).alloc (.cells #[.int .i64 7, .int .i64 1, .slice none 0 0] 24)) (.cells #[.pointer (some ⟨S, 0, none⟩), .slice none 0 0] JT); rw [size_alloc, size_alloc] at this; exact this⟩, h.stays W0.out, ⟨[], by simp [World.ownsRow]⟩, by have := h.st.lt; omega, by have := h.kn.lt; omega⟩
  have hsa : Hid (Calls Try.prog 28 #[.pointer (some ⟨w.heap.size + 2, 0, none⟩), .agg #[.int .i64 7, .int .i64 0, .slice none 0 0], .agg #[.int .i64 7, .int .i64 1, .slice none 0 0]] (((w.alloc (.cells #[.int .i64 7, .int .i64 0, .slice none 0 0] 24)).alloc (.cells #[.int .i64 7, .int .i64 1, .slice none 0 0] 24)).alloc (.cells #[.pointer (some ⟨S, 0, none⟩), .slice none 0 0] JT)) fun e w' => e = .returned (.bool true) ∧ (∃ q0 q1 : Nat, Sto w' S g cap mv (some ⟨q0, 0, none⟩) (some ⟨q1, 0, none⟩) more ∧ Arr w' q1 FT [.int .i64 1, .int .i64 1, .int .i64 0, .int .i64 1, .pointer none, .int .i64 1, .pointer none] ∧ Arr w' q0 FT [.int .i64 1, .int .i64 0, .int .i64 0, .int .i64 0, .pointer none, .int .i64 0, .pointer none] ∧ w.heap.size ≤ q0 ∧ w.heap.size ≤ q1) ∧ Fu g w w') := by
    refine (same_metas _ _ S g cap mv more HJ.out).mono ?_
    rintro e w' ⟨rfl, ⟨q0, q1, cv', k1, k2, k3, k4, k5⟩, k6⟩
    have := W0.out.size
    exact ⟨rfl, ⟨q0, q1, k1.sto, k2, k3, by omega, by omega⟩, Fu.of W0.out k6 (by omega)⟩
  clear h HJ W0
  go_enter Try.func8, Try.ntmps8
  go_wp2_with (go_at_call 28; refine hsa.out.mono ?_; rintro e w9 ⟨rfl, k1, k2⟩; have K1 := hid k1; have K2 := hid k2; clear k1 k2)
  go_ret
  exact ⟨rfl, K1.out, K2.out⟩

set_option maxHeartbeats 1000000 in
set_option maxRecDepth 100000 in
theorem Unify_2 (w : World) (S g cap : Nat) (mv : Value) (p0 : Option Addr) (q1 : Nat) (more : List Value) (h : Sto w S g cap mv p0 (some ⟨q1, 0, none⟩) more) (hq : Arr w q1 FT [.int .i64 1, .int .i64 1, .int .i64 0, .int .i64 1, .pointer none, .int .i64 1, .pointer none]) (n0 : Nat) (vs : List Value) (t : Tp) (hT : TAt w Any n0 vs t) (hc : t.cnt ≤ 1000) (hc1 : t.cnt ≠ 1) (hM : NoM t) : Calls Try.prog 8 #[.pointer (some ⟨S, 0, none⟩), .agg #[.int .i64 7, .int .i64 1, .slice none 0 0], .agg vs.toArray] w fun e w' => e = .returned (.int .i64 0) ∧ (∃ (q2 pI N : Nat) (a : Option Addr × Nat), Sto w' S g cap mv p0 (some ⟨q2, 0, none⟩) more ∧ Arr w' q2 FT [.int .i64 1, .int .i64 1, .int .i64 0, .int .i64 1, .pointer (some ⟨pI, 0, none⟩), .int .i64 (t.cnt : Int), .pointer none] ∧ Arr w' pI 24 [.int .i64 t.k, .int .i64 t.n, .slice a.1 t.ks.length a.2] ∧ TAt w' (fun b => w.heap.size ≤ b) N [.int .i64 t.k, .int .i64 t.n, .slice a.1 t.ks.length a.2] t ∧ w.heap.size ≤ q2 ∧ w.heap.size ≤ pI) ∧ Fu g w w' := by
  obtain ⟨a0, c0, rfl⟩ := hT.form
  have W0 : Hid (Below w.heap.size w (((w.alloc (.cells #[.int .i64 7, .int .i64 1, .slice none 0 0] 24)).alloc (.cells #[.int .i64 t.k, .int .i64 t.n, .slice a0 t.ks.length c0] 24)).alloc (.cells #[.pointer (some ⟨S, 0, none⟩), .slice none 0 0] JT))) := bl_alloc (bl_alloc (bl_alloc (Below.refl _ _) _) _) _
  have HJ : Hid (Jn (((w.alloc (.cells #[.int .i64 7, .int .i64 1, .slice none 0 0] 24)).alloc (.cells #[.int .i64 t.k, .int .i64 t.n, .slice a0 t.ks.length c0] 24)).alloc (.cells #[.pointer (some ⟨S, 0, none⟩), .slice none 0 0] JT)) (w.heap.size + 2) S g cap mv p0 (some ⟨q1, 0, none⟩) more (.slice none 0 0) 0) := ⟨⟨by have := heap_alloc_at ((w.alloc (.cells #[.int .i64 7, .int .i64 1, .slice none 0 0] 24)).alloc (.cells #[.int .i64 t.k, .int .i64 t.n, .slice a0 t.ks.length c0] 24)) (.cells #[.pointer (some ⟨S, 0, none⟩), .slice none 0 0] JT); rw [size_alloc, size_alloc] at this; exact this⟩, h.stays W0.out, ⟨[], by simp [World.ownsRow]⟩, by have := h.st.lt; omega, by have := h.kn.lt; omega⟩
  have hsa : Hid (Calls Try.prog 28 #[.pointer (some ⟨w.heap.size + 2, 0, none⟩), .agg #[.int .i64 7, .int .i64 1, .slice none 0 0], .agg #[.int .i64 t.k, .int .i64 t.n, .slice a0 t.ks.length c0]] (((w.alloc (.cells #[.int .i64 7, .int .i64 1, .slice none 0 0] 24)).alloc (.cells #[.int .i64 t.k, .int .i64 t.n, .slice a0 t.ks.length c0] 24)).alloc (.cells #[.pointer (some ⟨S, 0, none⟩), .slice none 0 0] JT)) fun e w' => e = .returned (.bool true) ∧ (∃ (q2 pI N : Nat) (a : Option Addr × Nat), Sto w' S g cap mv p0 (some ⟨q2, 0, none⟩) more ∧ Arr w' q2 FT [.int .i64 1, .int .i64 1, .int .i64 0, .int .i64 1, .pointer (some ⟨pI, 0, none⟩), .int .i64 (t.cnt : Int), .pointer none] ∧ Arr w' pI 24 [.int .i64 t.k, .int .i64 t.n, .slice a.1 t.ks.length a.2] ∧ TAt w' (fun b => w.heap.size ≤ b) N [.int .i64 t.k, .int .i64 t.n, .slice a.1 t.ks.length a.2] t ∧ w.heap.size ≤ q2 ∧ w.heap.size ≤ pI) ∧ Fu g w w') := by
    refine (same_fill _ _ S g cap mv p0 q1 more HJ.out (hq.stays W0.out) n0 _ t (hT.below W0.out) hc hc1 hM).mono ?_
    rintro e w' ⟨rfl, ⟨q2, pI, N, a, c, cv', k1, k2, k3, k4, k5, k7⟩, k6⟩
    have := W0.out.size
    exact ⟨rfl, ⟨q2, pI, N, a, k1.sto, k2, k3, k4.move (Keeps.refl _ _) (fun b hb => by omega), by omega, by omega⟩, Fu.of W0.out k6 (by omega)⟩
  clear h HJ W0 hq hT hM hc hc1
  go_enter Try.func8, Try.ntmps8
  go_wp2_with (go_at_call 28; refine hsa.out.mono ?_; rintro e w9 ⟨rfl, k1, k2⟩; have K1 := hid k1; have K2 := hid k2; clear k1 k2)
  go_ret
  exact ⟨rfl, K1.out, K2.out⟩

set_option maxHeartbeats 1000000 in
set_option maxRecDepth 100000 in
theorem Unify_3 (w : World) (S g cap : Nat) (mv : Value) (q0 q2 pI : Nat) (more : List Value) (h : Sto w S g cap mv (some ⟨q0, 0, none⟩) (some ⟨q2, 0, none⟩) more) (z : Int) (hq : Arr w q2 FT [.int .i64 1, .int .i64 1, .int .i64 0, .int .i64 1, .pointer (some ⟨pI, 0, none⟩), .int .i64 z, .pointer none]) (hq0 : Arr w q0 FT [.int .i64 1, .int .i64 0, .int .i64 0, .int .i64 0, .pointer none, .int .i64 0, .pointer none]) (k n : Int) (a : Option Addr) (m c : Nat) (hI : Arr w pI 24 [.int .i64 k, .int .i64 n, .slice a m c]) (h7 : k ≠ 7) (h2 : k ≠ 2) : Calls Try.prog 8 #[.pointer (some ⟨S, 0, none⟩), .agg #[.int .i64 7, .int .i64 0, .slice none 0 0], .agg #[.int .i64 2, .int .i64 0, .slice none 0 0]] w fun e w' => e = .returned (.int .i64 22) ∧ Below w.heap.size w w' := by
  have W0 : Hid (Below w.heap.size w (((w.alloc (.cells #[.int .i64 7, .int .i64 0, .slice none 0 0] 24)).alloc (.cells #[.int .i64 2, .int .i64 0, .slice none 0 0] 24)).alloc (.cells #[.pointer (some ⟨S, 0, none⟩), .slice none 0 0] JT))) := bl_alloc (bl_alloc (bl_alloc (Below.refl _ _) _) _) _
  have HJ : Hid (Jn (((w.alloc (.cells #[.int .i64 7, .int .i64 0, .slice none 0 0] 24)).alloc (.cells #[.int .i64 2, .int .i64 0, .slice none 0 0] 24)).alloc (.cells #[.pointer (some ⟨S, 0, none⟩), .slice none 0 0] JT)) (w.heap.size + 2) S g cap mv (some ⟨q0, 0, none⟩) (some ⟨q2, 0, none⟩) more (.slice none 0 0) 0) := ⟨⟨by have := heap_alloc_at ((w.alloc (.cells #[.int .i64 7, .int .i64 0, .slice none 0 0] 24)).alloc (.cells #[.int .i64 2, .int .i64 0, .slice none 0 0] 24)) (.cells #[.pointer (some ⟨S, 0, none⟩), .slice none 0 0] JT); rw [size_alloc, size_alloc] at this; exact this⟩, h.stays W0.out, ⟨[], by simp [World.ownsRow]⟩, by have := h.st.lt; omega, by have := h.kn.lt; omega⟩
  have hsa : Hid (Calls Try.prog 28 #[.pointer (some ⟨w.heap.size + 2, 0, none⟩), .agg #[.int .i64 7, .int .i64 0, .slice none 0 0], .agg #[.int .i64 2, .int .i64 0, .slice none 0 0]] (((w.alloc (.cells #[.int .i64 7, .int .i64 0, .slice none 0 0] 24)).alloc (.cells #[.int .i64 2, .int .i64 0, .slice none 0 0] 24)).alloc (.cells #[.pointer (some ⟨S, 0, none⟩), .slice none 0 0] JT)) fun e w' => e = .returned (.bool false) ∧ Arr w' (w.heap.size + 2) JT [.pointer (some ⟨S, 0, none⟩), .slice none 0 0] ∧ Below w.heap.size w w') := by
    refine (same_known _ _ S g cap mv q0 q2 pI more HJ.out z (hq.stays W0.out) (hq0.stays W0.out) k n a m c (hI.stays W0.out) h7 h2).mono ?_
    rintro e w' ⟨rfl, k1⟩
    exact ⟨rfl, HJ.out.jn.stays k1, bl_tr W0.out k1⟩
  have htb : Hid (∀ wz, Arr wz (w.heap.size + 2) JT [.pointer (some ⟨S, 0, none⟩), .slice none 0 0] → Calls Try.prog 29 #[.pointer (some ⟨w.heap.size + 2, 0, none⟩)] wz fun e w' => e = .returned (.tuple #[]) ∧ Below wz.heap.size wz w') := fun wz hz => takeBack_none wz _ S hz
  clear h HJ W0 hq hq0 hI h7 h2
  go_enter Try.func8, Try.ntmps8
  go_wp2_with (first
    | (go_at_call 28; refine hsa.out.mono ?_; rintro e w9 ⟨rfl, k1, k2⟩; have K1 := hid k1; have K2 := hid k2; clear k1 k2)
    | (go_at_call 29; refine (htb.out _ K1.out).mono ?_; rintro e w10 ⟨rfl, k3⟩; have K3 := hid k3; clear k3))
  go_ret
  exact ⟨rfl, bl_tr K2.out K3.out⟩

theorem enters_resolved : Enters 25 := enters_of Try.func25 (by kernel_rfl) rfl
set_option maxHeartbeats 1000000 in
set_option maxRecDepth 100000 in
theorem uresolved_step (S : Nat) (w0 : World) (n : Nat) (ih : CopyOf 25 #[.pointer (some ⟨S, 0, none⟩)] #[] w0 n) : CopyOf 25 #[.pointer (some ⟨S, 0, none⟩)] #[] w0 (n + 1) := by
  intro w vs t h0 hT hc hM
  have HR : Hid (∀ wz, Below w.heap.size w wz → Calls Try.prog 55 #[.agg vs.toArray, .func (.func 25) #[.pointer (some ⟨S, 0, none⟩)] #[]] wz fun e w' => ∃ a c n', e = .returned (.agg #[.int .i64 t.k, .int .i64 t.n, .slice a t.ks.length c]) ∧ TAt w' (fun b => wz.heap.size ≤ b) n' [.int .i64 t.k, .int .i64 t.n, .slice a t.ks.length c] t ∧ Below wz.heap.size wz w') := by
    intro wz hz
    refine (unRen_any _ _ _ w0 n enters_resolved ih wz vs t (bl_tr h0 hz) (hT.below hz) hc hM).mono ?_
    rintro e w' ⟨vs', n', rfl, h1, h2⟩
    obtain ⟨a, c, rfl⟩ := h1.form
    exact ⟨a, c, n', rfl, h1, h2⟩
  obtain ⟨a0, c0, rfl⟩ := hT.form
  have hk7 := hM.kind
  have HC : Hid (∀ wz, Calls Try.prog 53 #[.pointer (some ⟨S, 0, none⟩), .agg #[.int .i64 t.k, .int .i64 t.n, .slice a0 t.ks.length c0]] wz fun e w' => e = .returned (.tuple #[.int .i64 0, .bool false]) ∧ Below wz.heap.size wz w') := fun wz => class_no wz S t.k t.n (.bool true) hk7 a0 t.ks.length c0
  have hA : Hid (∀ o', Arr ((w.alloc (.cells #[.int .i64 t.k, .int .i64 t.n, .slice a0 t.ks.length c0] 24)).alloc o') w.heap.size 24 [.int .i64 t.k, .int .i64 t.n, .slice a0 t.ks.length c0]) := fun o' => Arr.stays ⟨heap_alloc_at _ _⟩ (bl_alloc (Below.refl _ _) _)
  have hB1 : Hid (∀ o, Arr ((w.alloc o).alloc (.cells #[.int .i64 0, .int .i64 0, .slice none 0 0] 24)) (w.heap.size + 1) 24 [.int .i64 0, .int .i64 0, .slice none 0 0]) := fun o => ⟨by have := heap_alloc_at (w.alloc o) (.cells #[.int .i64 0, .int .i64 0, .slice none 0 0] 24); rw [size_alloc] at this; exact this⟩
  have HBB : Hid (∀ o o', Below w.heap.size w ((w.alloc o).alloc o')) := fun o o' => bl_alloc (bl_alloc (Below.refl _ _) _) _
  have hsz : Hid (∀ o o', ((w.alloc o).alloc o').heap.size = w.heap.size + 2) := fun o o' => by rw [size_alloc, size_alloc]
  clear hT hc hM ih h0 hk7
  rw [show ((#[.pointer (some ⟨S, 0, none⟩)] : Array Value).push (.agg [.int .i64 t.k, .int .i64 t.n, .slice a0 t.ks.length c0].toArray) ++ (#[] : Array Value)) = #[.pointer (some ⟨S, 0, none⟩), .agg #[.int .i64 t.k, .int .i64 t.n, .slice a0 t.ks.length c0]] from by simp]
  go_enter Try.func25, Try.ntmps25
  go_wp2_with (first
    | (go_at_call 53; refine (HC.out _).mono ?_; rintro e w3 ⟨rfl, b3⟩; have a3 := ((hA.out _).stays b3).cell; have X3 := hid ((hB1.out _).stays b3); have B3 := hid (bl_tr (HBB.out _ _) b3); have hs3 : w.heap.size + 2 ≤ w3.heap.size := (by have := b3.size; rw [hsz.out] at this; exact this); clear b3 HC)
    | (go_at_call 55; refine (HR.out _ B3.out).mono ?_; rintro e w4 ⟨a, c, n', rfl, hT4, hb4⟩; have q2 := (X3.out.stays hb4).cell; have q3 := (X3.out.stays hb4).frozen))
  refine bodyPost_ret (v := .agg #[.int .i64 t.k, .int .i64 t.n, .slice a t.ks.length c]) (by rw [results_cell1 (fn := Try.f25) (p := 4) (ty := 24) (by kernel_rfl)]; simp [go_sem, q2, q3]) rfl ?_
  have hK : ∀ (W : World) j u, Keeps (fun b => w3.heap.size ≤ b) W (W.setCell ⟨w.heap.size + 1, j, none⟩ u) := fun W j u => Keeps.set (K := fun b => w3.heap.size ≤ b) (p := ⟨w.heap.size + 1, j, none⟩) (show ¬ w3.heap.size ≤ w.heap.size + 1 by omega) u
  refine ⟨[_, _, _], n', rfl, hT4.move (((hK _ _ _).trans (hK _ _ _)).trans (hK _ _ _)) (fun b hb => by omega), bl_set _ _ (bl_set _ _ (bl_set _ _ (bl_tr B3.out hb4) (by show _ ≤ w.heap.size + 1; omega)) (by show _ ≤ w.heap.size + 1; omega)) (by show _ ≤ w.heap.size + 1; omega)⟩
theorem uresolved_any (S : Nat) (w0 : World) : ∀ n, CopyOf 25 #[.pointer (some ⟨S, 0, none⟩)] #[] w0 n
  | 0 => fun w vs t _ hT => hT.elim
  | n + 1 => uresolved_step S w0 n (uresolved_any S w0 n)

theorem unRes2 {fn : Func} {p a : Tmp} {ty : TypeId} (h : fn.results = #[.cell p ty, .tmp a]) (tmps : Array Value) (P : Program) (w : World) :
    (results fn tmps).run P w = ((asAddr (tmps.getD p undef)).run P w).andThen fun ad w₁ => ((loadVar ty ad).run P w₁).andThen fun v w₂ => .ok (.tuple #[v, tmps.getD a undef]) w₂ := by
  simp only [results, h]
  simp [Sem.run_bind, Result.andThen]
/-- The meta 0 of a store is known to be t. -/
structure Kn (w : World) (S g cap : Nat) (mv : Value) (q0 q2 pI : Nat) (more : List Value) (t : Tp) (N : Nat) (a0 : Option Addr) (c0 : Nat) : Prop where
  st : Sto w S g cap mv (some ⟨q0, 0, none⟩) (some ⟨q2, 0, none⟩) more
  f2 : Arr w q2 FT [.int .i64 1, .int .i64 1, .int .i64 0, .int .i64 1, .pointer (some ⟨pI, 0, none⟩), .int .i64 (t.cnt : Int), .pointer none]
  f0 : Arr w q0 FT [.int .i64 1, .int .i64 0, .int .i64 0, .int .i64 0, .pointer none, .int .i64 0, .pointer none]
  pi : Arr w pI 24 [.int .i64 t.k, .int .i64 t.n, .slice a0 t.ks.length c0]
  ty : TAt w Any N [.int .i64 t.k, .int .i64 t.n, .slice a0 t.ks.length c0] t
theorem Kn.stays {w w' : World} {S g cap : Nat} {mv : Value} {q0 q2 pI : Nat} {more : List Value} {t : Tp} {N : Nat} {a0 : Option Addr} {c0 : Nat} (h : Kn w S g cap mv q0 q2 pI more t N a0 c0) (hb : Below w.heap.size w w') : Kn w' S g cap mv q0 q2 pI more t N a0 c0 := ⟨h.st.stays hb, h.f2.stays hb, h.f0.stays hb, h.pi.stays hb, h.ty.below hb⟩
theorem Kn.cls {w : World} {S g cap : Nat} {mv : Value} {q0 q2 pI : Nat} {more : List Value} {t : Tp} {N : Nat} {a0 : Option Addr} {c0 : Nat} (h : Kn w S g cap mv q0 q2 pI more t N a0 c0) : Calls Try.prog 53 #[.pointer (some ⟨S, 0, none⟩), .agg #[.int .i64 7, .int .i64 0, .slice none 0 0]] w fun e w' => e = .returned (.tuple #[.int .i64 1, .bool true]) ∧ Below w.heap.size w w' :=
  class_meta w S g cap mv _ _ more h.st 0 1 (by decide) (by decide) ⟨.inr ⟨q2, rfl, h.f2.cell 0⟩, .inr ⟨q0, rfl, h.f0.cell 0⟩⟩
theorem Kn.at {w : World} {S g cap : Nat} {mv : Value} {q0 q2 pI : Nat} {more : List Value} {t : Tp} {N : Nat} {a0 : Option Addr} {c0 : Nat} (h : Kn w S g cap mv q0 q2 pI more t N a0 c0) : Calls Try.prog 54 #[.pointer (some ⟨S, 0, none⟩), .int .i64 1] w fun e w' => e = .returned (.agg #[.int .i64 1, .int .i64 1, .int .i64 0, .int .i64 1, .pointer (some ⟨pI, 0, none⟩), .int .i64 (t.cnt : Int), .pointer none]) ∧ Below w.heap.size w w' :=
  at_some w S g cap mv _ _ more h.st 1 (by decide) q2 rfl 1 1 0 1 _ (some ⟨pI, 0, none⟩) none h.f2
set_option maxHeartbeats 1000000 in
set_option maxRecDepth 100000 in
theorem size_known (w : World) (S g cap : Nat) (mv : Value) (q0 q2 pI : Nat) (more : List Value) (t : Tp) (N : Nat) (a0 : Option Addr) (c0 : Nat) (h : Kn w S g cap mv q0 q2 pI more t N a0 c0) : Calls Try.prog 24 #[.pointer (some ⟨S, 0, none⟩), .agg #[.int .i64 7, .int .i64 0, .slice none 0 0]] w fun e w' => e = .returned (.int .i64 (t.cnt : Int)) ∧ Below w.heap.size w w' := by
  have HK := hid (h.stays (bl_alloc (Below.refl _ _) (.cells #[.int .i64 7, .int .i64 0, .slice none 0 0] 24)))
  have HB := hid (bl_alloc (Below.refl w.heap.size w) (.cells #[.int .i64 7, .int .i64 0, .slice none 0 0] 24))
  have hfd := fld5
  clear h
  go_enter Try.func24, Try.ntmps24
  go_wp2_with (first
    | (go_at_call 53; refine (HK.out.cls).mono ?_; rintro e w3 ⟨rfl, b3⟩; have HK3 := hid (HK.out.stays b3); have B3 := hid (bl_tr HB.out b3); clear b3 HK)
    | (go_at_call 54; refine (HK3.out.at).mono ?_; rintro e w4 ⟨rfl, b4⟩; have B4 := hid (bl_tr B3.out b4); clear b4))
  go_ret
  exact ⟨rfl, B4.out⟩
set_option maxHeartbeats 1000000 in
set_option maxRecDepth 100000 in
theorem resolved_known (w : World) (S g cap : Nat) (mv : Value) (q0 q2 pI : Nat) (more : List Value) (t : Tp) (N : Nat) (a0 : Option Addr) (c0 : Nat) (h : Kn w S g cap mv q0 q2 pI more t N a0 c0) (hc : t.cnt ≤ 1000) (hM : NoM t) : Calls Try.prog 25 #[.pointer (some ⟨S, 0, none⟩), .agg #[.int .i64 7, .int .i64 0, .slice none 0 0]] w fun e w' => (∃ a c N', e = .returned (.agg #[.int .i64 t.k, .int .i64 t.n, .slice a t.ks.length c]) ∧ TAt w' (fun b => w.heap.size + 2 ≤ b) N' [.int .i64 t.k, .int .i64 t.n, .slice a t.ks.length c] t) ∧ Below w.heap.size w w' := by
  have HK : Hid (∀ o o', Kn ((w.alloc o).alloc o') S g cap mv q0 q2 pI more t N a0 c0) := fun o o' => h.stays (bl_alloc (bl_alloc (Below.refl _ _) _) _)
  have hA : Hid (∀ o', Arr ((w.alloc (.cells #[.int .i64 7, .int .i64 0, .slice none 0 0] 24)).alloc o') w.heap.size 24 [.int .i64 7, .int .i64 0, .slice none 0 0]) := fun o' => Arr.stays ⟨heap_alloc_at _ _⟩ (bl_alloc (Below.refl _ _) _)
  have hB1 : Hid (∀ o, Arr ((w.alloc o).alloc (.cells #[.int .i64 0, .int .i64 0, .slice none 0 0] 24)) (w.heap.size + 1) 24 [.int .i64 0, .int .i64 0, .slice none 0 0]) := fun o => ⟨by have := heap_alloc_at (w.alloc o) (.cells #[.int .i64 0, .int .i64 0, .slice none 0 0] 24); rw [size_alloc] at this; exact this⟩
  have HBB : Hid (∀ o o', Below w.heap.size w ((w.alloc o).alloc o')) := fun o o' => bl_alloc (bl_alloc (Below.refl _ _) _) _
  have hsz : Hid (∀ o o', ((w.alloc o).alloc o').heap.size = w.heap.size + 2) := fun o o' => by rw [size_alloc, size_alloc]
  have HR : Hid (∀ wz, Kn wz S g cap mv q0 q2 pI more t N a0 c0 → Calls Try.prog 25 #[.pointer (some ⟨S, 0, none⟩), .agg #[.int .i64 t.k, .int .i64 t.n, .slice a0 t.ks.length c0]] wz fun e w' => ∃ a c N', e = .returned (.agg #[.int .i64 t.k, .int .i64 t.n, .slice a t.ks.length c]) ∧ TAt w' (fun b => wz.heap.size ≤ b) N' [.int .i64 t.k, .int .i64 t.n, .slice a t.ks.length c] t ∧ Below wz.heap.size wz w') := by
    intro wz hz
    have hk := uresolved_any S wz N wz _ t (Below.refl _ _) hz.ty (by omega) hM
    rw [show ((#[.pointer (some ⟨S, 0, none⟩)] : Array Value).push (.agg [.int .i64 t.k, .int .i64 t.n, .slice a0 t.ks.length c0].toArray) ++ (#[] : Array Value)) = #[.pointer (some ⟨S, 0, none⟩), .agg #[.int .i64 t.k, .int .i64 t.n, .slice a0 t.ks.length c0]] from by simp] at hk
    refine hk.mono ?_
    rintro e w' ⟨vs', n', rfl, h1, h2⟩
    obtain ⟨a, c, rfl⟩ := h1.form
    exact ⟨a, c, n', rfl, h1, h2⟩
  clear h hc hM
  go_enter Try.func25, Try.ntmps25
  go_wp2_with (first
    | (go_at_call 53; refine ((HK.out _ _).cls).mono ?_; rintro e w3 ⟨rfl, b3⟩; have K3 := hid ((HK.out _ _).stays b3); have X3 := hid ((hB1.out _).stays b3); have B3 := hid (bl_tr (HBB.out _ _) b3); have hs3 : w.heap.size + 2 ≤ w3.heap.size := (by have := b3.size; rw [hsz.out] at this; exact this); clear b3 HK)
    | (go_at_call 54; refine (K3.out.at).mono ?_; rintro e w4 ⟨rfl, b4⟩; have b5 := bl_alloc b4 (.cells #[.int .i64 1, .int .i64 1, .int .i64 0, .int .i64 1, .pointer (some ⟨pI, 0, none⟩), .int .i64 (t.cnt : Int), .pointer none] FT); have K5 := hid (K3.out.stays b5); have X5 := hid (X3.out.stays b5); have B5 := hid (bl_tr B3.out b5); have p5 := K5.out.pi.cell; have hs5 : w.heap.size + 2 ≤ (w4.alloc (.cells #[.int .i64 1, .int .i64 1, .int .i64 0, .int .i64 1, .pointer (some ⟨pI, 0, none⟩), .int .i64 (t.cnt : Int), .pointer none] FT)).heap.size := (by have := b5.size; omega); clear b4 b5 K3)
    | (go_at_call 25; refine (HR.out _ K5.out).mono ?_; rintro e w6 ⟨a, c, N', rfl, hT6, b6⟩; have q2 := (X5.out.stays b6).cell; have q3 := (X5.out.stays b6).frozen))
  refine bodyPost_ret (v := .agg #[.int .i64 t.k, .int .i64 t.n, .slice a t.ks.length c]) (by rw [results_cell1 (fn := Try.f25) (p := 4) (ty := 24) (by kernel_rfl)]; simp [go_sem, q2, q3]) rfl ?_
  have hK : ∀ (W : World) j u, Keeps (fun b => w.heap.size + 2 ≤ b) W (W.setCell ⟨w.heap.size + 1, j, none⟩ u) := fun W j u => Keeps.set (K := fun b => w.heap.size + 2 ≤ b) (p := ⟨w.heap.size + 1, j, none⟩) (show ¬ w.heap.size + 2 ≤ w.heap.size + 1 by omega) u
  have hT7 := hT6.move (K' := fun b => w.heap.size + 2 ≤ b) (Keeps.refl _ _) (fun b hb => by omega)
  refine ⟨⟨a, c, N', rfl, hT7.move (((hK _ _ _).trans (hK _ _ _)).trans (hK _ _ _)) (fun b hb => hb)⟩, bl_set _ _ (bl_set _ _ (bl_set _ _ (bl_tr B5.out b6) (by show _ ≤ w.heap.size + 1; omega)) (by show _ ≤ w.heap.size + 1; omega)) (by show _ ≤ w.heap.size + 1; omega)⟩
set_option maxHeartbeats 1000000 in
set_option maxRecDepth 100000 in
theorem Resolve_known (w : World) (S g cap : Nat) (mv : Value) (q0 q2 pI : Nat) (more : List Value) (t : Tp) (N : Nat) (a0 : Option Addr) (c0 : Nat) (h : Kn w S g cap mv q0 q2 pI more t N a0 c0) (hc : t.cnt ≤ 1000) (hM : NoM t) : Calls Try.prog 5 #[.pointer (some ⟨S, 0, none⟩), .agg #[.int .i64 7, .int .i64 0, .slice none 0 0]] w fun e w' => (∃ a c N', e = .returned (.tuple #[.agg #[.int .i64 t.k, .int .i64 t.n, .slice a t.ks.length c], .int .i64 0]) ∧ TAt w' Any N' [.int .i64 t.k, .int .i64 t.n, .slice a t.ks.length c] t) ∧ Below w.heap.size w w' := by
  have HK : Hid (∀ o o', Kn ((w.alloc o).alloc o') S g cap mv q0 q2 pI more t N a0 c0) := fun o o' => h.stays (bl_alloc (bl_alloc (Below.refl _ _) _) _)
  have hA : Hid (∀ o', Arr ((w.alloc (.cells #[.int .i64 7, .int .i64 0, .slice none 0 0] 24)).alloc o') w.heap.size 24 [.int .i64 7, .int .i64 0, .slice none 0 0]) := fun o' => Arr.stays ⟨heap_alloc_at _ _⟩ (bl_alloc (Below.refl _ _) _)
  have hB1 : Hid (∀ o, Arr ((w.alloc o).alloc (.cells #[.int .i64 0, .int .i64 0, .slice none 0 0] 24)) (w.heap.size + 1) 24 [.int .i64 0, .int .i64 0, .slice none 0 0]) := fun o => ⟨by have := heap_alloc_at (w.alloc o) (.cells #[.int .i64 0, .int .i64 0, .slice none 0 0] 24); rw [size_alloc] at this; exact this⟩
  have HBB : Hid (∀ o o', Below w.heap.size w ((w.alloc o).alloc o')) := fun o o' => bl_alloc (bl_alloc (Below.refl _ _) _) _
  have hsz : Hid (∀ o o', ((w.alloc o).alloc o').heap.size = w.heap.size + 2) := fun o o' => by rw [size_alloc, size_alloc]
  have hzd : decide ((t.cnt : Int) > 1000) = false := by simp; omega
  have hzd2 : ¬ ((1000 : Int) < (t.cnt : Int)) := by omega
  have HC := hid hc
  have HM := hid hM
  clear h hc hM
  go_enter Try.func5, Try.ntmps5
  go_wp2_with (first
    | (go_at_call 24; refine (size_known _ _ _ _ _ _ _ _ _ _ _ _ _ (HK.out _ _)).mono ?_; rintro e w3 ⟨rfl, b3⟩; have K3 := hid ((HK.out _ _).stays b3); have a3 := ((hA.out _).stays b3).cell; have X3 := hid ((hB1.out _).stays b3); have B3 := hid (bl_tr (HBB.out _ _) b3); have hs3 : w.heap.size + 2 ≤ w3.heap.size := (by have := b3.size; rw [hsz.out] at this; exact this); clear b3 HK)
    | (go_at_call 25; refine (resolved_known _ _ _ _ _ _ _ _ _ _ _ _ _ K3.out HC.out HM.out).mono ?_; rintro e w6 ⟨⟨a, c, N', rfl, hT6⟩, b6⟩; have q2 := (X3.out.stays b6).cell; have q3 := (X3.out.stays b6).frozen))
  refine bodyPost_ret (v := .tuple #[.agg #[.int .i64 t.k, .int .i64 t.n, .slice a t.ks.length c], .int .i64 0]) (by rw [unRes2 (fn := Try.f5) (p := 4) (a := 5) (ty := 24) (by kernel_rfl)]; simp [go_sem, q2, q3]) rfl ?_
  have hK : ∀ (W : World) j u, Keeps (fun b => w3.heap.size + 2 ≤ b) W (W.setCell ⟨w.heap.size + 1, j, none⟩ u) := fun W j u => Keeps.set (K := fun b => w3.heap.size + 2 ≤ b) (p := ⟨w.heap.size + 1, j, none⟩) (show ¬ w3.heap.size + 2 ≤ w.heap.size + 1 by omega) u
  refine ⟨⟨a, c, N', rfl, (hT6.move (((hK _ _ _).trans (hK _ _ _)).trans (hK _ _ _)) (fun b hb => hb)).any⟩, bl_set _ _ (bl_set _ _ (bl_set _ _ (bl_tr B3.out b6) (by show _ ≤ w.heap.size + 1; omega)) (by show _ ≤ w.heap.size + 1; omega)) (by show _ ≤ w.heap.size + 1; omega)⟩
end Go.Proofs.Ytknlpeloaapaiaa
