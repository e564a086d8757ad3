/- Own of an empty environment; Clone of a store that knows nothing. pattern.Check of the two example patterns, in a store that knows nothing. isLast, alone. -/
import Derived.Shelf.SlMaps.Clone
import Derived.Laws.Externs
import Derived.Laws.CopyOwn
import Derived.BigQuiet
import Derived.Lib.Strings
import Derived.Deep.QuietTactic
import Derived.Test.YtjodgnkhociaaaaGreatQas
import Derived.Test.YtjodgnkhociaaaaGreatQad
import Derived.Test.YtjodgnkhociaaaaGreatQat
import Derived.Test.YtjodgnkhociaaaaGreatQay
import Derived.Test.YtjodgnkhociaaaaGreatQam
namespace Go.Proofs.YtjodgnkhociaaaaGreat
open Go.RowKit
set_option linter.unusedVariables false
set_option linter.unusedSimpArgs false

abbrev env0 : Value := .agg #[.slice none 0 0, .slice none 0 0, .slice none 0 0, .slice none 0 0, .slice none 0 0, .slice none 0 0]
set_option maxHeartbeats 2000000 in
set_option maxRecDepth 100000 in
theorem Own_empty (w : World) : Calls Tryz.prog 14 #[.agg #[.slice none 0 0, .slice none 0 0, .slice none 0 0, .slice none 0 0, .slice none 0 0, .slice none 0 0]] w fun e w' => e = .returned (.agg #[.slice none 0 0, .slice none 0 0, .slice none 0 0, .slice none 0 0, .slice none 0 0, .slice none 0 0]) ∧ Below w.heap.size w w' := by
  go_enter Tryz.func14, Tryz.ntmps14
  go_wp2
  refine wp_loop_rounds 1 ?_
  rw [rounds_succ]
  go_wp2
  refine wp_loop_rounds 1 ?_
  rw [rounds_succ]
  go_wp2
  refine wp_loop_rounds 1 ?_
  rw [rounds_succ]
  go_wp2
  refine wp_loop_rounds 1 ?_
  rw [rounds_succ]
  go_wp2
  refine wp_loop_rounds 1 ?_
  rw [rounds_succ]
  go_wp2
  refine wp_loop_rounds 1 ?_
  rw [rounds_succ]
  go_wp2
  refine bodyPost_ret (v := .agg #[.slice none 0 0, .slice none 0 0, .slice none 0 0, .slice none 0 0, .slice none 0 0, .slice none 0 0]) (by rw [results_cell1 (fn := Tryz.f14) (p := 2) (ty := 59) (by kernel_rfl)]; simp [go_sem]) rfl ?_
  exact ⟨rfl, bl_alloc (bl_alloc (bl_alloc (Below.refl _ _) _) _) _⟩
abbrev MPT : TypeId := 77
set_option maxHeartbeats 2000000 in
set_option maxRecDepth 100000 in
theorem mclone_any (w : World) (M : Nat) (h : Em w M) : Calls Tryz.prog 32 #[.map (some M)] w fun e w' => e = .returned (.map (some w.heap.size)) ∧ w' = w.alloc (.map #[] 0) := by
  have hq := fun w => run_eql_map_nil_sl (P := Tryz.prog) w MPT _ _ (some M) Tryz.underlying77
  go_enter Tryz.func32, Tryz.ntmps32
  go_wp2
  rw [run_callFunc_extern Tryz.func47 (by kernel_rfl) (by kernel_rfl) (by kernel_rfl) (e := Extern.MapsClone.clone) (by kernel_rfl), run_maps_clone_sl w MPT h]
  simp only [Result.andThen]
  rw [Oper.upon_value]
  go_wp2
  rw [run_typeAssert_map_sl _ MPT _ _ _ _ Tryz.underlying77]
  simp only [Result.andThen]
  rw [Oper.upon_value]
  go_wp2
  go_ret
  exact ⟨rfl, rfl⟩
set_option maxHeartbeats 2000000 in
set_option maxRecDepth 100000 in
theorem Clone_0 (w : World) (S M base : Nat) (v : Value) (h : StoG w S M base v 0) : Calls Tryz.prog 22 #[.pointer (some ⟨S, 0, none⟩)] w fun e w' => ∃ S' M' v', e = .returned (.pointer (some ⟨S', 0, none⟩)) ∧ StoG w' S' M' w.heap.size v' 0 ∧ Below w.heap.size w w' ∧ w.heap.size ≤ S' := by
  obtain ⟨a, c, rfl⟩ := own_form h.own
  have c0 := h.st.cell
  have hM := h.em
  have HS : Hid (StoG w S M base (.slice a 0 c) 0) := h
  have hmk : ∀ w, (Instr.makeSlice 78 (.int .i64 0) (.int .i64 0)).run Tryz.prog w = .ok (.slice (some ⟨w.heap.size, 0, none⟩) 0 0) (w.alloc (.cells #[] PT)) := fun w => by kernel_rfl
  have lc : ∀ o, ∀ j, (w.alloc o).cell? ⟨S, j, none⟩ = [.slice a 0 c, .map (some M)][j]? := fun o => (h.st.stays (bl_alloc (Below.refl _ _) o)).cell
  have hsz : (Tryz.prog.info? PT).map (·.size) = some 1 := by kernel_rfl
  have hcp : ∀ w0 : World, (Builtin.copy_ #[78, 78] 3 #[.slice (some ⟨w.heap.size, 0, none⟩) 0 0, .slice a 0 c]).run Tryz.prog w0 = .ok (.int .i64 0) w0 := fun w0 => run_copy_none w0 _ _ _ PT _ _ 0 0 0 c Tryz.underlying78 hsz rfl
  have hmc : Hid (∀ o, Calls Tryz.prog 32 #[.map (some M)] (w.alloc o) fun e w' => e = .returned (.map (some (w.heap.size + 1))) ∧ w' = (w.alloc o).alloc (.map #[] 0)) := fun o => by
    have := mclone_any (w.alloc o) M (h.em.stays (bl_alloc (Below.refl _ _) o))
    rw [size_alloc] at this
    exact this
  clear h
  go_enter Tryz.func22, Tryz.ntmps22
  go_wp2_with (first
    | (go_at_call 32; refine (hmc.out _).mono ?_; rintro e w3 ⟨rfl, hw⟩; rw [hw]; clear hw w3))
  go_ret
  have hb := bl_alloc (bl_alloc (bl_alloc (Below.refl w.heap.size w) (.cells #[] PT)) (.map #[] 0)) (.cells #[.slice (some ⟨w.heap.size, 0, none⟩) 0 0, .map (some (w.heap.size + 1))] ST)
  have e2 : ((w.alloc (.cells #[] PT)).alloc (.map #[] 0)).heap.size = w.heap.size + 2 := by rw [size_alloc, size_alloc]
  refine ⟨w.heap.size + 2, w.heap.size + 1, .slice (some ⟨w.heap.size, 0, none⟩) 0 0, by simp, ⟨⟨?_⟩, ?_, ?_, ?_⟩, hb, by omega⟩
  · have := heap_alloc_at ((w.alloc (.cells #[] PT)).alloc (.map #[] 0)) (.cells #[.slice (some ⟨w.heap.size, 0, none⟩) 0 0, .map (some (w.heap.size + 1))] ST)
    rw [e2] at this
    exact this
  · have := heap_alloc_at (w.alloc (.cells #[] PT)) (.map #[] 0)
    rw [size_alloc] at this
    exact (Below.heap_alloc _ _ _ (by rw [e2]; omega)).trans this
  · have h1 := row_new w PT 1
    exact own_stays (own_stays h1 (bl_alloc (Below.refl _ _) (.map #[] 0))) (bl_alloc (Below.refl _ _) _)
  · rw [size_alloc, e2]; omega
end Go.Proofs.YtjodgnkhociaaaaGreat

namespace Go.Proofs.YtjodgnkhociaaaaGreat
open Go.RowKit
set_option linter.unusedVariables false
set_option linter.unusedSimpArgs false

abbrev nilEnv : Value := .agg #[.slice none 0 0, .slice none 0 0, .slice none 0 0, .slice none 0 0, .slice none 0 0, .slice none 0 0]
abbrev envVs : List Value := [.slice none 0 0, .slice none 0 0, .slice none 0 0, .slice none 0 0, .slice none 0 0, .slice none 0 0]
/-- Check's three boxes. -/
def box3 (w : World) (K : Nat) : World := ((w.alloc (.cells #[.int .i64 7, .string ⟨#[]⟩, .slice none 0 0, .int .i64 0, .slice (some ⟨K, 0, none⟩) 2 2] PAT5)).alloc (.cells #[.slice none 0 0, .slice none 0 0, .slice none 0 0, .slice none 0 0, .slice none 0 0, .slice none 0 0] 59)).alloc (.cells #[.int .i64 0, .int .i64 0, .slice none 0 0] TY)
theorem box3_ok (w : World) (K : Nat) (k : Int) (s : ByteArray) (n : Int) (ha : Leaf5 w K 0 2 bx 0) (hb : Leaf5 w K 5 k s n) : Pair5 (box3 w K) w.heap.size K k s n ∧ Arr (box3 w K) (w.heap.size + 1 + 1) TY [.int .i64 0, .int .i64 0, .slice none 0 0] ∧ Below w.heap.size w (box3 w K) := by
  unfold box3
  have z1 : (w.alloc (.cells #[.int .i64 7, .string ⟨#[]⟩, .slice none 0 0, .int .i64 0, .slice (some ⟨K, 0, none⟩) 2 2] PAT5)).heap.size = w.heap.size + 1 := size_alloc _ _
  have x1 := bl_alloc (Below.refl w.heap.size w) (.cells #[.int .i64 7, .string ⟨#[]⟩, .slice none 0 0, .int .i64 0, .slice (some ⟨K, 0, none⟩) 2 2] PAT5)
  have y1 : Arr (w.alloc (.cells #[.int .i64 7, .string ⟨#[]⟩, .slice none 0 0, .int .i64 0, .slice (some ⟨K, 0, none⟩) 2 2] PAT5)) w.heap.size PAT5 (pairVs K) := ⟨heap_alloc_at _ _⟩
  generalize (w.alloc (.cells #[.int .i64 7, .string ⟨#[]⟩, .slice none 0 0, .int .i64 0, .slice (some ⟨K, 0, none⟩) 2 2] PAT5)) = w1 at z1 x1 y1 ⊢
  rw [← z1]
  have z2 : (w1.alloc (.cells #[.slice none 0 0, .slice none 0 0, .slice none 0 0, .slice none 0 0, .slice none 0 0, .slice none 0 0] 59)).heap.size = w1.heap.size + 1 := size_alloc _ _
  have x2 := bl_alloc (Below.refl w1.heap.size w1) (.cells #[.slice none 0 0, .slice none 0 0, .slice none 0 0, .slice none 0 0, .slice none 0 0, .slice none 0 0] 59)
  generalize w1.alloc (.cells #[.slice none 0 0, .slice none 0 0, .slice none 0 0, .slice none 0 0, .slice none 0 0, .slice none 0 0] 59) = w2 at z2 x2 ⊢
  rw [← z2]
  have x3 := bl_alloc (Below.refl w2.heap.size w2) (.cells #[.int .i64 0, .int .i64 0, .slice none 0 0] TY)
  have y3 : Arr (w2.alloc (.cells #[.int .i64 0, .int .i64 0, .slice none 0 0] TY)) w2.heap.size TY [.int .i64 0, .int .i64 0, .slice none 0 0] := ⟨heap_alloc_at _ _⟩
  have pp := (y1.stays x2).stays x3
  have b := bl_tr x1 (bl_tr x2 x3)
  exact ⟨⟨fun j u hu => by rw [Nat.zero_add, pp.cell]; exact hu, pp.lt, ha.stays b, hb.stays b⟩, y3, b⟩
set_option maxHeartbeats 4000000 in
set_option maxRecDepth 100000 in
theorem Check_two (w : World) (K S : Nat) (ha : Leaf5 w K 0 2 bx 0) (hb : Leaf5 w K 5 2 bx 0) : Calls Tryz.prog 13 #[.agg #[.int .i64 7, .string ⟨#[]⟩, .slice none 0 0, .int .i64 0, .slice (some ⟨K, 0, none⟩) 2 2], nilEnv, .pointer (some ⟨S, 0, none⟩)] w fun e w' => e = .returned (.tuple #[.agg #[.int .i64 0, .int .i64 0, .slice none 0 0], .slice none 0 0, .int .i64 20]) ∧ Below w.heap.size w w' := by
  obtain ⟨hp, h6, b3⟩ := box3_ok w K _ _ _ ha hb
  have HC := hid (consOf_two (box3 w K) w.heap.size K (w.heap.size + 1) hp)
  have H6 := hid h6
  have B3 := hid b3
  clear ha hb hp h6 b3
  unfold box3 at HC
  go_enter Tryz.func13, Tryz.ntmps13
  go_wp2_with (go_at_call 20; refine HC.out.mono ?_; rintro e w1 ⟨rfl, b1⟩; have c6 := (H6.out.stays b1).cell; have f6 := (H6.out.stays b1).frozen; have B1 := hid (bl_tr B3.out b1); clear b1)
  refine bodyPost_ret (v := .tuple #[.agg #[.int .i64 0, .int .i64 0, .slice none 0 0], .slice none 0 0, .int .i64 20]) (by rw [res3 (fn := Tryz.f13) (p := 6) (a := 7) (b := 8) (ty := TY) (by kernel_rfl)]; simp [go_sem, c6, f6]) rfl ?_
  exact ⟨rfl, bl_set _ _ (bl_set _ _ (bl_set _ _ B1.out (by show _ ≤ w.heap.size + 1 + 1; omega)) (by show _ ≤ w.heap.size + 1 + 1; omega)) (by show _ ≤ w.heap.size + 1 + 1; omega)⟩
set_option maxHeartbeats 4000000 in
set_option maxRecDepth 100000 in
theorem Check_one (w : World) (K S M base : Nat) (sv : Value) (hS : StoG w S M base sv 0) (ha : Leaf5 w K 0 2 bx 0) (hb : Leaf5 w K 5 3 (⟨#[]⟩ : ByteArray) 1) (nK : ¬ Es S sv K) : Calls Tryz.prog 13 #[.agg #[.int .i64 7, .string ⟨#[]⟩, .slice none 0 0, .int .i64 0, .slice (some ⟨K, 0, none⟩) 2 2], nilEnv, .pointer (some ⟨S, 0, none⟩)] w fun e w' => (∃ a c N' g cb s' k', e = .returned (.tuple #[.agg #[.int .i64 5, .int .i64 0, .slice a 2 c], .slice (some ⟨g, 0, none⟩) 1 cb, .int .i64 0]) ∧ TAt w' (fun b => w.heap.size ≤ b) N' [.int .i64 5, .int .i64 0, .slice a 2 c] tPair ∧ Cells w' g 0 [.string bx, .int .i64 7, .int .i64 0, .slice s' 0 k']) ∧ (∃ v', StoG w' S M base v' 1) ∧ Xf (Es S sv) w w' := by
  obtain ⟨hp, h6, b3⟩ := box3_ok w K _ _ _ ha hb
  have HC := hid (consOf_one (box3 w K) w.heap.size K (w.heap.size + 1) hp)
  have H6 := hid h6
  have B3 := hid b3
  have HP := hid hp
  have HS := hid (hS.stays b3)
  have hSl := hS.st.lt
  have HSV : Hid (∀ k, sv.ownBlock = some k → k < w.heap.size) := fun k e => (hS.own.lt k e).2
  have HN := hid nK
  have HK := hid ha.2
  clear ha hb hp h6 b3 hS nK
  unfold box3 at HC HP H6 B3 HS
  go_enter Tryz.func13, Tryz.ntmps13
  go_wp2_with (first
    | (go_at_call 20
       refine HC.out.mono ?_
       rintro e w1 ⟨⟨C, rfl⟩, b1⟩
       have P1 := hid (HP.out.stays b1)
       have S1 := hid (HS.out.stays b1)
       have A1 := hid (H6.out.stays b1)
       have B1 := hid (bl_tr B3.out b1)
       have HCl := hid (Clone_0 w1 S M base sv (HS.out.stays b1))
       clear b1)
    | (go_at_call 22
       refine HCl.out.mono ?_
       rintro e w2 ⟨S', M', sv', rfl, s2, b2, hS'⟩
       have hpl := P1.out.pl
       have hkl := P1.out.a.2
       have HT1 := hid (typed_one w2 w.heap.size K S' M' w1.heap.size sv' C s2 (P1.out.stays b2) (fun e => e.elim (fun e => by omega) (fun e => by have := (s2.own.lt _ e).1; omega)) (fun e => e.elim (fun e => by omega) (fun e => by have := (s2.own.lt _ e).1; omega)))
       have E2 : Hid (∀ w3, Xf (Es S' sv') w2 w3 → Below w1.heap.size w1 w3) := hid (fun w3 hx => b2.trans (hx.below b2.size (fun k e => e.elim (fun e => by omega) (fun e => (s2.own.lt _ e).1))))
       clear s2 b2 hS' hpl hkl)
    | (have m1 := HT1
       clear HT1
       go_at_call 21
       refine m1.out.mono ?_
       rintro e w3 ⟨⟨a3, c3, N3, g3, cb3, s3, k3, rfl, -, -⟩, -, hx3⟩
       have b3 := E2.out _ hx3
       have ba := bl_alloc b3 (.cells #[.int .i64 5, .int .i64 0, .slice a3 2 c3] TY)
       have hpl := P1.out.pl
       have A3 := hid (A1.out.stays ba)
       have B4 := hid (bl_tr B1.out ba)
       have HT2 := hid (typed_one _ w.heap.size K S M base sv C (S1.out.stays ba) (P1.out.stays ba) (fun e => e.elim (fun e => by omega) (fun e => by have := HSV.out _ e; omega)) HN.out)
       clear hx3 b3 ba hpl m1)
    | (go_at_call 21
       refine HT2.out.mono ?_
       rintro e w5 ⟨⟨a5, c5, N5, g5, cb5, s5, k5, rfl, t5, g5c⟩, ⟨v5, h5⟩, x5⟩
       have n6 : ¬ Es S sv (w.heap.size + 1 + 1) := fun e => e.elim (fun e => by omega) (fun e => by have := HSV.out _ e; omega)
       have a6 := x5.arr A3.out n6
       have cc6 := a6.cell
       have ff6 := a6.frozen
       have T5 := hid t5
       have G5 := hid g5c
       have S5 := hid h5
       have X5 := hid x5
       have A6 := hid a6
       clear t5 g5c h5 x5 a6 n6))
  refine bodyPost_ret (v := .tuple #[.agg #[.int .i64 5, .int .i64 0, .slice a5 2 c5], .slice (some ⟨g5, 0, none⟩) 1 cb5, .int .i64 0]) (by rw [res3 (fn := Tryz.f13) (p := 6) (a := 7) (b := 8) (ty := TY) (by kernel_rfl)]; simp [go_sem, cc6, ff6]) rfl ?_
  have h4l := A3.out.lt
  have h04 := B4.out.size
  have kg : g5 ≠ w.heap.size + 1 + 1 := by
    rintro rfl
    have q1 := G5.out 0 _ rfl
    have q2 := A6.out.cell 0
    rw [Nat.add_zero, q2] at q1
    simp at q1
  have no6 := S5.out.not A6.out (by decide) (by decide)
  generalize hW : ((w3.alloc (.cells #[.int .i64 5, .int .i64 0, .slice a3 2 c3] TY))).heap.size = B at *
  have hK : ∀ (W : World) j u, Keeps (fun b => B ≤ b) W (W.setCell ⟨w.heap.size + 1 + 1, j, none⟩ u) := fun W j u => Keeps.set (K := fun b => B ≤ b) (p := ⟨w.heap.size + 1 + 1, j, none⟩) (show ¬ B ≤ w.heap.size + 1 + 1 by omega) u
  refine ⟨⟨a5, c5, N5, g5, cb5, s5, k5, rfl, T5.out.move (((hK _ _ _).trans (hK _ _ _)).trans (hK _ _ _)) (fun b hb => by omega), fun j u hu => ?_⟩, ⟨v5, ((S5.out.other no6.1 no6.2.1 no6.2.2 _).other no6.1 no6.2.1 no6.2.2 _).other no6.1 no6.2.1 no6.2.2 _⟩, ?_⟩
  · exact (World.cell?_of_block (w := w5) ((Below.heap_setCell _ ⟨w.heap.size + 1 + 1, 2, none⟩ _ _ kg).trans ((Below.heap_setCell _ ⟨w.heap.size + 1 + 1, 1, none⟩ _ _ kg).trans (Below.heap_setCell _ ⟨w.heap.size + 1 + 1, 0, none⟩ _ _ kg)))).trans (G5.out j u hu)
  · have hw2 : w.heap.size ≤ w.heap.size + 1 + 1 := by omega
    exact ((((Xf.of_below B4.out).trans X5.out).set (.inr hw2) 0 _).set (.inr hw2) 1 _).set (.inr hw2) 2 _
end Go.Proofs.YtjodgnkhociaaaaGreat

namespace Go.Proofs.YtjodgnkhociaaaaGreat
open Go.RowKit
set_option linter.unusedVariables false
set_option linter.unusedSimpArgs false

theorem pvStr_eq (x y : ByteArray) : (x.toList == y.toList) = decide (x = y) := by
  rw [Lib.toList_data, Lib.toList_data, Bool.eq_iff_iff, beq_iff_eq, decide_eq_true_iff]
  constructor
  · intro h
    cases x; cases y; congr 1; exact Array.toList_inj.1 h
  · rintro rfl; rfl
theorem pv_beq (a b : Int) : (a == b) = decide (a = b) := by rw [Bool.eq_iff_iff, beq_iff_eq, decide_eq_true_iff]
theorem lastIs_nil (s : ByteArray) : lastIs s [] = false := rfl
set_option maxHeartbeats 1000000 in
set_option maxRecDepth 100000 in
theorem isLast_any (w : World) (K : Nat → Prop) (s : ByteArray) (a : Option Addr) (c : Nat) (p : List ByteArray) (h : GRow w K 1 (fun vs x => vs = [.string x]) (.slice a p.length c) p) :
    Calls Tryz.prog 17 #[.string s, .slice a p.length c] w fun e w' => e = .returned (.bool (lastIs s p)) ∧ w' = w := by
  rcases Nat.eq_zero_or_pos p.length with h0 | h0
  · obtain rfl := List.eq_nil_of_length_eq_zero h0
    clear h h0
    go_enter Tryz.func17, Tryz.ntmps17
    go_wp2
    go_ret
    exact ⟨rfl, rfl⟩
  · obtain ⟨a', c', e, hml⟩ := h.form
    unfold maxLen at hml
    obtain ⟨x, hx⟩ : ∃ x, p[p.length - 1]? = some x := ⟨_, List.getElem?_eq_getElem (by omega)⟩
    obtain ⟨b, o, rfl, -, vs, h1, h2, rfl⟩ := h.elem hx
    have c0 := h2 0 _ rfl
    have hl : lastIs s p = decide (x = s) := by
      unfold lastIs
      rw [List.getLast?_eq_getElem?, hx]
      simp
    obtain ⟨m, hm⟩ : ∃ m, p.length = m + 1 := ⟨p.length - 1, by omega⟩
    rw [hl]
    rw [hm] at c0 hml ⊢
    rw [show o + (m + 1 - 1) * 1 + 0 = o + m by omega] at c0
    have hq : (0 : Int) < ((m + 1 : Nat) : Int) := by omega
    clear h hx h2 hl hm h0
    go_enter Tryz.func17, Tryz.ntmps17
    go_wp2
    go_ret
    exact ⟨congrArg (fun z => Ending.returned (.bool z)) (pvStr_eq x s), rfl⟩

/-- A kind of pattern that alone takes without binding. -/
theorem aloneR_other {k : Int} {s : ByteArray} {n : Int} {v : Vl} (h : k ≠ 2) : (aloneR k s n v).1 = [] := by
  unfold aloneR; (repeat' split) <;> simp_all
set_option maxHeartbeats 4000000 in
set_option maxRecDepth 100000 in
theorem alone_other (W : World) (F : Nat) (b o : Nat) (p : Pt) (pa pc : Value) (hp : Cells W b o [.int .i64 p.k, .string p.s, pa, .int .i64 p.n, pc]) (b' o' : Nat) (v : Vl) (va : Value) (hv : Cells W b' o' [.int .i64 v.k, .int .i64 v.n, .string v.s, va]) (h2 : p.k ≠ 2) :
    Calls Tryz.prog 18 #[.pointer (some ⟨F, 0, none⟩), .pointer (some ⟨b, o, none⟩), .pointer (some ⟨b', o', none⟩)] W fun e w' => e = .returned (.bool (aloneR p.k p.s p.n v).2) ∧ Below W.heap.size W w' := by
  have p0 := hp 0 _ rfl
  have p3 := hp 3 _ rfl
  have v0 := hv 0 _ rfl
  have v1 := hv 1 _ rfl
  rw [Nat.add_zero] at p0 v0
  generalize p.k = k at p0 h2 ⊢
  generalize p.n = n at p3 ⊢
  generalize p.s = s
  have hR : (aloneR k s n v).2 = if k = 1 then true else if k = 3 then decide (v.k = 1) && decide (v.n = n) else if k = 4 then decide (v.k = 2) && decide (v.n = 1) else if k = 5 then decide (v.k = 2) && decide (v.n = 0) else if k = 6 then decide (v.k = 3) else false := by
    unfold aloneR
    by_cases h1 : k = 1
    · simp [h1]
    · simp only [h1, h2, if_false]
      (repeat' split) <;> rfl
  rw [hR]
  generalize v.k = m at v0 ⊢
  generalize v.n = q at v1 ⊢
  clear hp hv hR
  have t2 : (k == 2) = false := by simp [h2]
  by_cases h1 : k = 1
  · subst h1
    go_enter Tryz.func18, Tryz.ntmps18
    go_wp2
    go_ret
    exact ⟨rfl, Below.refl _ _⟩
  have t1 : (k == 1) = false := by simp [h1]
  rw [if_neg h1]
  by_cases h3 : k = 3
  · subst h3
    simp only [if_pos rfl, if_true]
    by_cases hm : m = 1
    · subst hm
      go_enter Tryz.func18, Tryz.ntmps18
      go_wp2
      go_quiet (fail)
      go_wp2
      go_ret
      exact ⟨congrArg (fun z => Ending.returned (.bool z)) (by simp [pv_beq]), bl_drewN _ _⟩
    · have tm : (m == 1) = false := by simp [hm]
      go_enter Tryz.func18, Tryz.ntmps18
      go_wp2
      go_quiet (fail)
      go_wp2
      go_ret
      exact ⟨congrArg (fun z => Ending.returned (.bool z)) (by simp [hm, pv_beq]), bl_drewN _ _⟩
  have t3 : (k == 3) = false := by simp [h3]
  rw [if_neg h3]
  by_cases h4 : k = 4
  · subst h4
    simp only [if_pos rfl, if_true]
    by_cases hm : m = 2
    · subst hm
      go_enter Tryz.func18, Tryz.ntmps18
      go_wp2
      go_ret
      exact ⟨congrArg (fun z => Ending.returned (.bool z)) (by simp [pv_beq]), Below.refl _ _⟩
    · have tm : (m == 2) = false := by simp [hm]
      go_enter Tryz.func18, Tryz.ntmps18
      go_wp2
      go_ret
      exact ⟨congrArg (fun z => Ending.returned (.bool z)) (by simp [hm, pv_beq]), Below.refl _ _⟩
  have t4 : (k == 4) = false := by simp [h4]
  rw [if_neg h4]
  by_cases h5 : k = 5
  · subst h5
    simp only [if_pos rfl, if_true]
    by_cases hm : m = 2
    · subst hm
      go_enter Tryz.func18, Tryz.ntmps18
      go_wp2
      go_ret
      exact ⟨congrArg (fun z => Ending.returned (.bool z)) (by simp [pv_beq]), Below.refl _ _⟩
    · have tm : (m == 2) = false := by simp [hm]
      go_enter Tryz.func18, Tryz.ntmps18
      go_wp2
      go_ret
      exact ⟨congrArg (fun z => Ending.returned (.bool z)) (by simp [hm, pv_beq]), Below.refl _ _⟩
  have t5 : (k == 5) = false := by simp [h5]
  rw [if_neg h5]
  by_cases h6 : k = 6
  · subst h6
    simp only [if_pos rfl, if_true]
    by_cases hm : m = 3
    · subst hm
      go_enter Tryz.func18, Tryz.ntmps18
      go_wp2
      go_ret
      exact ⟨congrArg (fun z => Ending.returned (.bool z)) (by simp [pv_beq]), Below.refl _ _⟩
    · have tm : (m == 3) = false := by simp [hm]
      go_enter Tryz.func18, Tryz.ntmps18
      go_wp2
      go_ret
      exact ⟨congrArg (fun z => Ending.returned (.bool z)) (by simp [hm, pv_beq]), Below.refl _ _⟩
  have t6 : (k == 6) = false := by simp [h6]
  rw [if_neg h6]
  go_enter Tryz.func18, Tryz.ntmps18
  go_wp2
  go_ret
  exact ⟨rfl, Below.refl _ _⟩
end Go.Proofs.YtjodgnkhociaaaaGreat
