/- alive; a nil store. -/
import Derived.Test.YtknlpeloaapaiaaUnA
import Derived.Test.YtknlpeloaapaiaaTpE
import Derived.Test.YtknlpeloaapaiaaTpO
namespace Go.Proofs.Ytknlpeloaapaiaa
open Go.RowKit Go.Shelf
set_option linter.unusedVariables false
set_option linter.unusedSimpArgs false

theorem StoN.two {W : World} {S M base : Nat} {v : Value} (h : StoN W S M base v 2) : ∃ g cap more, v = .slice (some ⟨g, 0, none⟩) 2 cap ∧ Sto W S g cap (.map (some M)) none none more ∧ base ≤ g := by
  obtain ⟨hl, ⟨-, hn⟩ | ⟨g, cap, cur, rfl, hb, hg, hn, hm, hs, ht⟩⟩ := h.own
  · cases hn
  · refine ⟨g, cap, cur.toList.drop 2, rfl, ⟨h.st, ⟨?_⟩, by have := h.lo; omega, hn⟩, hb⟩
    rw [hg]
    have e : cur.toList = .pointer none :: .pointer none :: cur.toList.drop 2 := by
      have := List.take_append_drop 2 cur.toList
      rw [show 2 * 1 = 2 from rfl] at ht
      rw [ht] at this
      exact this.symm
    rw [← e]
theorem stoN_new (w : World) : StoN ((w.alloc (.map #[] 0)).alloc (.cells #[.slice none 0 0, .map (some w.heap.size)] ST)) (w.heap.size + 1) w.heap.size (w.heap.size + 2) (.slice none 0 0) 0 :=
  ⟨⟨by have := heap_alloc_at (w.alloc (.map #[] 0)) (.cells #[.slice none 0 0, .map (some w.heap.size)] ST); rw [size_alloc] at this; exact this⟩, Em.stays (w := w.alloc (.map #[] 0)) (heap_alloc_at _ _) (bl_alloc (Below.refl _ _) _), by simp [World.ownsRow], by omega, by omega, by rw [size_alloc, size_alloc]; omega⟩
def fT : Tp := .mk 4 0 [.mk 1 0 [], .mk 1 0 []]
theorem fT_at {W : World} {pK : Nat} (h : Arr W pK 24 [.int .i64 1, .int .i64 0, .slice none 0 0, .int .i64 1, .int .i64 0, .slice none 0 0]) : TAt W Any 2 [.int .i64 4, .int .i64 0, .slice (some ⟨pK, 0, none⟩) 2 2] fT := by
  have hl : ∀ vs, vs = [.int .i64 1, .int .i64 0, .slice none 0 0] → TAt W Any 1 vs (.mk 1 0 []) := fun vs e => ⟨_, e, ⟨by decide, by decide⟩, ⟨by decide, by decide⟩, .inr ⟨rfl, _, _, rfl⟩⟩
  refine ⟨_, rfl, ⟨by decide, by decide⟩, ⟨by decide, by decide⟩, .inl ⟨pK, 0, 2, rfl, trivial, by decide, by decide, fun i x hx => ?_⟩⟩
  match i, hx with
  | 0, hx => injection hx with hx; subst hx; exact ⟨_, Seg.cells h (o := 0 + 0 * 3) (vs := [.int .i64 1, .int .i64 0, .slice none 0 0]) (fun j v hv => by match j, hv with | 0, hv => exact hv | 1, hv => exact hv | 2, hv => exact hv | j + 3, hv => simp at hv), hl _ rfl⟩
  | 1, hx => injection hx with hx; subst hx; exact ⟨_, Seg.cells h (o := 0 + 1 * 3) (vs := [.int .i64 1, .int .i64 0, .slice none 0 0]) (fun j v hv => by match j, hv with | 0, hv => exact hv | 1, hv => exact hv | 2, hv => exact hv | j + 3, hv => simp at hv), hl _ rfl⟩
  | i + 2, hx => simp [fT, Tp.ks] at hx
theorem fT_noM : NoM fT := by unfold NoM fT; simp [Tp.spares, Tp.sparesL]
theorem fT_cnt : fT.cnt = 3 := by unfold fT; simp [Tp.cnt, Tp.cntL]

set_option maxHeartbeats 4000000 in
set_option maxRecDepth 100000 in
theorem alive11 (w : World) : Calls Try.prog 12 #[] w fun e w' => e = .returned (.bool true) ∧ Below w.heap.size w w' := by
  have hne : Hid (Calls Try.prog 33 #[] w fun e w' => e = .returned (.pointer (some ⟨w.heap.size + 1, 0, none⟩)) ∧ StoN w' (w.heap.size + 1) w.heap.size (w.heap.size + 2) (.slice none 0 0) 0 ∧ Below w.heap.size w w') := (New_any w).mono fun e w' ⟨h1, h2⟩ => ⟨h1, by rw [h2]; exact stoN_new w, by rw [h2]; exact bl_alloc (bl_alloc (Below.refl _ _) _) _⟩
  have hme : Hid (∀ (wz : World) (v : Value) (n : Nat), StoN wz (w.heap.size + 1) w.heap.size (w.heap.size + 2) v n → n ≤ 1000 → Below w.heap.size w wz → Calls Try.prog 7 #[.pointer (some ⟨w.heap.size + 1, 0, none⟩)] wz fun e w' => e = .returned (.agg #[.int .i64 7, .int .i64 (n : Int), .slice none 0 0]) ∧ (∃ v', StoN w' (w.heap.size + 1) w.heap.size (w.heap.size + 2) v' (n + 1)) ∧ Below w.heap.size w w') := fun wz v n hz hn hb => (Meta_any wz _ _ _ v n hz hn).mono fun e w' ⟨h1, h2, h3⟩ => ⟨h1, h2, hb.trans (h3.mono (by omega))⟩
  go_enter Try.func12, Try.ntmps12
  go_upto_region 7 with (first
    | (go_at_call 33; refine hne.out.mono ?_; rintro e w1 ⟨rfl, s1, b1⟩; have S1 := hid s1; have B1 := hid b1; have m1 := True.intro; clear hne s1 b1)
    | (go_at_call 7; have := m1; refine (hme.out _ _ 0 S1.out (by omega) B1.out).mono ?_; rintro e w2 ⟨rfl, ⟨v2, s2⟩, b2⟩; have S2 := hid s2; have B2 := hid b2; clear s2 b2 m1)
    | (go_at_call 7; refine (hme.out _ _ 1 S2.out (by omega) B2.out).mono ?_; rintro e w3 ⟨rfl, ⟨v3, s3⟩, b3⟩; have S3 := hid s3; have B3 := hid b3; clear s3 b3))
  obtain ⟨g, cap, more, rfl, hst, hg⟩ := S3.out.two
  have hgl : g < w3.heap.size := hst.kn.lt
  have hSl := hst.st.lt
  have hw3 := B3.out.size
  have o1 := bl_alloc (Below.refl w3.heap.size w3) (.cells #[.int .i64 7, .int .i64 0, .slice none 0 0] 24)
  have o2 := bl_alloc o1 (.cells #[.int .i64 7, .int .i64 1, .slice none 0 0] 24)
  have o3 := bl_alloc o2 (.cells #[.int .i64 1, .int .i64 0, .slice none 0 0] 24)
  have o4 := bl_alloc o3 (.cells #[.int .i64 1, .int .i64 0, .slice none 0 0, .int .i64 1, .int .i64 0, .slice none 0 0] 24)
  have o5 := bl_alloc o4 (.cells #[.int .i64 4, .int .i64 0, .slice (some ⟨w3.heap.size + 1 + 1 + 1, 0, none⟩) 2 2] 24)
  have A5 := hid (Arr.stays (Arr.stays (Arr.stays (Arr.stays (w := w3.alloc (.cells #[.int .i64 7, .int .i64 0, .slice none 0 0] 24)) (g := w3.heap.size) (T := 24) (cur := [.int .i64 7, .int .i64 0, .slice none 0 0]) ⟨heap_alloc_at _ _⟩ (bl_alloc (Below.refl _ _) (.cells #[.int .i64 7, .int .i64 1, .slice none 0 0] 24))) (bl_alloc (Below.refl _ _) (.cells #[.int .i64 1, .int .i64 0, .slice none 0 0] 24))) (bl_alloc (Below.refl _ _) (.cells #[.int .i64 1, .int .i64 0, .slice none 0 0, .int .i64 1, .int .i64 0, .slice none 0 0] 24))) (bl_alloc (Below.refl _ _) (.cells #[.int .i64 4, .int .i64 0, .slice (some ⟨w3.heap.size + 1 + 1 + 1, 0, none⟩) 2 2] 24)))
  have B5 := hid (Arr.stays (Arr.stays (Arr.stays (w := (w3.alloc (.cells #[.int .i64 7, .int .i64 0, .slice none 0 0] 24)).alloc (.cells #[.int .i64 7, .int .i64 1, .slice none 0 0] 24)) (g := w3.heap.size + 1) (T := 24) (cur := [.int .i64 7, .int .i64 1, .slice none 0 0]) ⟨by have := heap_alloc_at (w3.alloc (.cells #[.int .i64 7, .int .i64 0, .slice none 0 0] 24)) (.cells #[.int .i64 7, .int .i64 1, .slice none 0 0] 24); rw [size_alloc] at this; exact this⟩ (bl_alloc (Below.refl _ _) (.cells #[.int .i64 1, .int .i64 0, .slice none 0 0] 24))) (bl_alloc (Below.refl _ _) (.cells #[.int .i64 1, .int .i64 0, .slice none 0 0, .int .i64 1, .int .i64 0, .slice none 0 0] 24))) (bl_alloc (Below.refl _ _) (.cells #[.int .i64 4, .int .i64 0, .slice (some ⟨w3.heap.size + 1 + 1 + 1, 0, none⟩) 2 2] 24)))
  have K5 := hid (Arr.stays (w := (((w3.alloc (.cells #[.int .i64 7, .int .i64 0, .slice none 0 0] 24)).alloc (.cells #[.int .i64 7, .int .i64 1, .slice none 0 0] 24)).alloc (.cells #[.int .i64 1, .int .i64 0, .slice none 0 0] 24)).alloc (.cells #[.int .i64 1, .int .i64 0, .slice none 0 0, .int .i64 1, .int .i64 0, .slice none 0 0] 24)) (g := w3.heap.size + 1 + 1 + 1) (T := 24) (cur := [.int .i64 1, .int .i64 0, .slice none 0 0, .int .i64 1, .int .i64 0, .slice none 0 0]) ⟨by have := heap_alloc_at (((w3.alloc (.cells #[.int .i64 7, .int .i64 0, .slice none 0 0] 24)).alloc (.cells #[.int .i64 7, .int .i64 1, .slice none 0 0] 24)).alloc (.cells #[.int .i64 1, .int .i64 0, .slice none 0 0] 24)) (.cells #[.int .i64 1, .int .i64 0, .slice none 0 0, .int .i64 1, .int .i64 0, .slice none 0 0] 24); rw [size_alloc, size_alloc, size_alloc] at this; exact this⟩ (bl_alloc (Below.refl _ _) (.cells #[.int .i64 4, .int .i64 0, .slice (some ⟨w3.heap.size + 1 + 1 + 1, 0, none⟩) 2 2] 24)))
  have F5 : Hid (Arr (((((w3.alloc (.cells #[.int .i64 7, .int .i64 0, .slice none 0 0] 24)).alloc (.cells #[.int .i64 7, .int .i64 1, .slice none 0 0] 24)).alloc (.cells #[.int .i64 1, .int .i64 0, .slice none 0 0] 24)).alloc (.cells #[.int .i64 1, .int .i64 0, .slice none 0 0, .int .i64 1, .int .i64 0, .slice none 0 0] 24)).alloc (.cells #[.int .i64 4, .int .i64 0, .slice (some ⟨w3.heap.size + 1 + 1 + 1, 0, none⟩) 2 2] 24)) (w3.heap.size + 1 + 1 + 1 + 1) 24 [.int .i64 4, .int .i64 0, .slice (some ⟨w3.heap.size + 1 + 1 + 1, 0, none⟩) 2 2]) := ⟨by have := heap_alloc_at ((((w3.alloc (.cells #[.int .i64 7, .int .i64 0, .slice none 0 0] 24)).alloc (.cells #[.int .i64 7, .int .i64 1, .slice none 0 0] 24)).alloc (.cells #[.int .i64 1, .int .i64 0, .slice none 0 0] 24)).alloc (.cells #[.int .i64 1, .int .i64 0, .slice none 0 0, .int .i64 1, .int .i64 0, .slice none 0 0] 24)) (.cells #[.int .i64 4, .int .i64 0, .slice (some ⟨w3.heap.size + 1 + 1 + 1, 0, none⟩) 2 2] 24); rw [size_alloc, size_alloc, size_alloc, size_alloc] at this; exact this⟩
  have T5 := hid (hst.stays o5)
  have BL5 := hid (B3.out.trans (o5.mono hw3))
  clear S1 S2 S3 B1 B2 B3 hme hst o1 o2 o3 o4 o5
  generalize ((((w3.alloc (.cells #[.int .i64 7, .int .i64 0, .slice none 0 0] 24)).alloc (.cells #[.int .i64 7, .int .i64 1, .slice none 0 0] 24)).alloc (.cells #[.int .i64 1, .int .i64 0, .slice none 0 0] 24)).alloc (.cells #[.int .i64 1, .int .i64 0, .slice none 0 0, .int .i64 1, .int .i64 0, .slice none 0 0] 24)).alloc (.cells #[.int .i64 4, .int .i64 0, .slice (some ⟨w3.heap.size + 1 + 1 + 1, 0, none⟩) 2 2] 24) = w5 at A5 B5 K5 F5 T5 BL5 ⊢
  generalize w3.heap.size = pA at A5 B5 K5 F5 hgl hSl hw3 ⊢
  have hA5 := A5.out.lt
  have a5 := A5.out.cell
  have b5 := B5.out.cell
  have hwg : w.heap.size ≤ g := by omega
  have hu1 : Hid _ := hid (Unify_1 w5 (w.heap.size + 1) g cap (.map (some w.heap.size)) more T5.out)
  have HG := hid (show g < pA ∧ w.heap.size ≤ g ∧ pA < w5.heap.size from ⟨hgl, hwg, hA5⟩)
  clear hg hgl hSl hw3 hA5 hwg
  go_upto_region 8 with (go_at_call 8; refine hu1.out.mono ?_; rintro e w6 ⟨rfl, ⟨q0, q1, t6, f61, f60, l60, l61⟩, u6⟩; have U6 := hid u6; have T6 := hid t6; have F61 := hid f61; have F60 := hid f60; have L6 := hid (And.intro l60 l61); clear u6 t6 f61 f60 l60 l61 hu1)
  have A6 := hid (U6.out.arr A5.out (by have := HG.out; omega))
  have B6 := hid (U6.out.arr B5.out (by have := HG.out; omega))
  have K6 := hid (U6.out.arr K5.out (by have := HG.out; omega))
  have F6 := hid (U6.out.arr F5.out (by have := HG.out; omega))
  have BL6 := hid (BL5.out.trans (U6.out.below (B := w.heap.size) BL5.out.size HG.out.2.1))
  have G6 : Hid (g < w6.heap.size ∧ w5.heap.size ≤ w6.heap.size) := by have := U6.out.size; have := HG.out; exact ⟨by omega, by omega⟩
  clear A5 B5 K5 F5 BL5 U6 T5 a5 b5
  have b6 := B6.out.cell
  have f6 := F6.out.cell
  have hu2 : Hid (Calls Try.prog 8 #[.pointer (some ⟨w.heap.size + 1, 0, none⟩), .agg #[.int .i64 7, .int .i64 1, .slice none 0 0], .agg #[.int .i64 4, .int .i64 0, .slice (some ⟨pA + 1 + 1 + 1, 0, none⟩) 2 2]] w6 _) := hid (Unify_2 w6 (w.heap.size + 1) g cap (.map (some w.heap.size)) (some ⟨q0, 0, none⟩) q1 more T6.out F61.out 2 _ fT (fT_at K6.out) (by rw [fT_cnt]; omega) (by rw [fT_cnt]; omega) fT_noM)
  go_upto_region 9 with (go_at_call 8; refine hu2.out.mono ?_; rintro e w7 ⟨rfl, ⟨q2, pI, N7, aa, t7, f72, i7, y7, l7, l72⟩, u7⟩; have U7 := hid u7; have T7 := hid t7; have F72 := hid f72; have I7 := hid i7; have Y7 := hid y7; have L7 := hid (And.intro l7 l72); clear u7 t7 f72 i7 y7 l7 l72 hu2)
  have A7 := hid (U7.out.arr A6.out (by have := HG.out; omega))
  have K7 := hid (U7.out.arr K6.out (by have := HG.out; omega))
  have F7 := hid (U7.out.arr F6.out (by have := HG.out; omega))
  have F70 := hid (U7.out.arr F60.out (by have := HG.out; have := L6.out; omega))
  have BL7 := hid (BL6.out.trans (U7.out.below (B := w.heap.size) BL6.out.size HG.out.2.1))
  clear A6 B6 K6 F6 BL6 U7 T6 b6 f6 F60 F61
  have KN7 : Hid (Kn w7 (w.heap.size + 1) g cap (.map (some w.heap.size)) q0 q2 pI more fT N7 aa.1 aa.2) := ⟨T7.out, F72.out, F70.out, I7.out, Y7.out.any⟩
  have a7 := A7.out.cell
  have hu3 : Hid (Calls Try.prog 8 #[.pointer (some ⟨w.heap.size + 1, 0, none⟩), .agg #[.int .i64 7, .int .i64 0, .slice none 0 0], .agg #[.int .i64 2, .int .i64 0, .slice none 0 0]] w7 fun e w' => e = .returned (.int .i64 22) ∧ Below w7.heap.size w7 w') := Unify_3 w7 (w.heap.size + 1) g cap (.map (some w.heap.size)) q0 q2 pI more T7.out _ F72.out F70.out fT.k fT.n aa.1 fT.ks.length aa.2 I7.out (by decide) (by decide)
  have hrs : Hid (∀ wz, Below w7.heap.size w7 wz → Calls Try.prog 5 #[.pointer (some ⟨w.heap.size + 1, 0, none⟩), .agg #[.int .i64 7, .int .i64 0, .slice none 0 0]] wz fun e w' => (∃ a c N', e = .returned (.tuple #[.agg #[.int .i64 fT.k, .int .i64 fT.n, .slice a fT.ks.length c], .int .i64 0]) ∧ TAt w' Any N' [.int .i64 fT.k, .int .i64 fT.n, .slice a fT.ks.length c] fT) ∧ Below wz.heap.size wz w') := fun wz hz => Resolve_known wz _ g cap _ q0 q2 pI more fT N7 aa.1 aa.2 (KN7.out.stays hz) (by rw [fT_cnt]; omega) fT_noM
  have hsm : Hid (∀ (wz : World) (N : Nat) (vs : List Value), Below w7.heap.size w7 wz → TAt wz Any N vs fT → Calls Try.prog 6 #[.agg vs.toArray, .agg #[.int .i64 4, .int .i64 0, .slice (some ⟨pA + 1 + 1 + 1, 0, none⟩) 2 2]] wz fun e w' => e = .returned (.bool true) ∧ Below wz.heap.size wz w') := fun wz N vs hz ht => by
    have := refSame_any wz N 2 vs _ fT fT ht (fT_at (K7.out.stays hz))
    rw [show (Tp.cmp fT fT == 0) = true by rw [beq_iff_eq]; exact (Tp.cmp_eq _ _).2 rfl] at this
    exact this
  go_upto_region 10 with (go_at_call 8; refine hu3.out.mono ?_; rintro e w8 ⟨rfl, b8⟩; have B8 := hid b8; clear b8 hu3)
  have a8 := (A7.out.stays B8.out).cell
  go_wp2_with (first
    | (go_at_call 5; refine (hrs.out _ B8.out).mono ?_; rintro e w9 ⟨⟨a9, c9, N9, rfl, t9⟩, b9⟩; have bx := bl_alloc b9 (.cells #[.int .i64 fT.k, .int .i64 fT.n, .slice a9 fT.ks.length c9] 24); have BX := hid (bl_tr B8.out bx); have T9 := hid (t9.below (bl_alloc (Below.refl _ _) (.cells #[.int .i64 fT.k, .int .i64 fT.n, .slice a9 fT.ks.length c9] 24))); have f9 := (F7.out.stays (bl_tr B8.out bx)).cell; clear b9 bx t9 hrs)
    | (go_at_call 6; refine (hsm.out _ _ _ BX.out T9.out).mono ?_; rintro e w10 ⟨rfl, b10⟩; have B10 := hid b10; clear b10 hsm))
  go_ret
  exact ⟨rfl, BL7.out.trans ((bl_tr BX.out B10.out).mono BL7.out.size)⟩

set_option maxRecDepth 100000 in
theorem Meta_nil (w : World) : Calls Try.prog 7 #[.pointer none] w fun e w' => e = .returned (.agg #[.int .i64 0, .int .i64 0, .slice none 0 0]) ∧ Below w.heap.size w w' := by
  go_enter Try.func7, Try.ntmps7
  go_wp2
  refine bodyPost_ret (v := .agg #[.int .i64 0, .int .i64 0, .slice none 0 0]) (by rw [results_cell1 (fn := Try.f7) (p := 2) (ty := 24) (by kernel_rfl)]; simp [go_sem]) rfl ?_
  exact ⟨rfl, bl_alloc (Below.refl _ _) _⟩
set_option maxRecDepth 100000 in
theorem Unify_nil (w : World) (k n k' n' : Int) (a a' : Option Addr) (m c m' c' : Nat) : Calls Try.prog 8 #[.pointer none, .agg #[.int .i64 k, .int .i64 n, .slice a m c], .agg #[.int .i64 k', .int .i64 n', .slice a' m' c']] w fun e w' => e = .returned (.int .i64 2) ∧ Below w.heap.size w w' := by
  go_enter Try.func8, Try.ntmps8
  go_wp2
  go_ret
  exact ⟨rfl, bl_alloc (bl_alloc (Below.refl _ _) _) _⟩
set_option maxRecDepth 100000 in
theorem Resolve_nil (w : World) (k n : Int) (a : Option Addr) (m c : Nat) : Calls Try.prog 5 #[.pointer none, .agg #[.int .i64 k, .int .i64 n, .slice a m c]] w fun e w' => e = .returned (.tuple #[.agg #[.int .i64 0, .int .i64 0, .slice none 0 0], .int .i64 2]) ∧ Below w.heap.size w w' := by
  go_enter Try.func5, Try.ntmps5
  go_wp2
  refine bodyPost_ret (v := .tuple #[.agg #[.int .i64 0, .int .i64 0, .slice none 0 0], .int .i64 2]) (by rw [unRes2 (fn := Try.f5) (p := 4) (a := 5) (ty := 24) (by kernel_rfl)]; simp [go_sem]) rfl ?_
  exact ⟨rfl, bl_alloc (bl_alloc (Below.refl _ _) _) _⟩
set_option maxRecDepth 100000 in
theorem Open_nil (w : World) (k n : Int) (a : Option Addr) (m c : Nat) : Calls Try.prog 9 #[.pointer none, .agg #[.int .i64 k, .int .i64 n, .slice a m c]] w fun e w' => e = .returned (.slice none 0 0) ∧ Below w.heap.size w w' := by
  go_enter Try.func9, Try.ntmps9
  go_wp2
  go_ret
  exact ⟨rfl, bl_alloc (Below.refl _ _) _⟩
set_option maxRecDepth 100000 in
theorem Count_nil (w : World) : Calls Try.prog 10 #[.pointer none] w fun e w' => e = .returned (.int .i64 0) ∧ Below w.heap.size w w' := by
  go_enter Try.func10, Try.ntmps10
  go_wp2
  go_ret
  exact ⟨rfl, Below.refl _ _⟩
set_option maxRecDepth 100000 in
theorem Clone_nil (w : World) : Calls Try.prog 11 #[.pointer none] w fun e w' => e = .returned (.pointer none) ∧ Below w.heap.size w w' := by
  go_enter Try.func11, Try.ntmps11
  go_wp2
  go_ret
  exact ⟨rfl, Below.refl _ _⟩

end Go.Proofs.Ytknlpeloaapaiaa
