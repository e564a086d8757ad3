/- TargetSizes' walk. -/
import Derived.Test.YtfeppchgmobfpaaGreatDoorTgY2
namespace Go.Proofs.YtfeppchgmobfpaaGreatDoor
open Go.RowKit
set_option linter.unusedVariables false
set_option linter.unusedSimpArgs false

theorem Tt.cntL_drop_le : ∀ (l : List Tt) (i : Nat), Tt.cntL (l.drop i) ≤ Tt.cntL l
  | [], i => by simp
  | y :: r, 0 => Nat.le_refl _
  | y :: r, i + 1 => by rw [List.drop_succ_cons, Tt.cntL]; have := Tt.cntL_drop_le r i; omega
theorem Tt.size_big {t : Tt} (h : t.cnt ≤ 1048576) : t.size 1099511627776 = t.cnt := by
  unfold Tt.size Tt.up
  rw [if_neg (by decide)]
  split <;> omega
theorem Tt.size_neg {t : Tt} {m : Int} (h : m < 0) : t.size m = 0 := by unfold Tt.size; rw [if_pos h]
theorem Tt.size_cut {t : Tt} {m : Int} (h0 : ¬ m < 0) (h : m < t.cnt) : t.size m = m + 1 := by
  unfold Tt.size Tt.up
  rw [if_neg h0]
  split <;> omega
theorem Tt.size_fit {t : Tt} {m : Int} (h0 : ¬ m < 0) (h : ¬ m < t.cnt) : t.size m = t.cnt := by
  unfold Tt.size Tt.up
  rw [if_neg h0]
  split <;> omega

set_option maxHeartbeats 2000000 in
set_option maxRecDepth 100000 in
theorem sizes_walk (w : World) (hW : Tab w) (k : Nat) (us : List Value) (t : Tt) (h : TAt w Any k us t) (m : Int) (hm : R64 m) (hc : t.cnt ≤ 1048576) : Calls Tryz.prog 6 #[.agg us.toArray, .int .i64 m] w fun e w' => e = .returned (.bool true) ∧ Below w.heap.size w w' := by
  obtain ⟨n, rfl⟩ : ∃ n, k = n + 1 := by cases k with
    | zero => exact h.elim
    | succ n => exact ⟨n, rfl⟩
  have hT := h
  obtain ⟨u, v, rfl, hk, hn, hS, hL⟩ := h
  obtain ⟨a', c', rfl, -⟩ := hS.form
  obtain ⟨a, c, rfl, hlm⟩ := TAtL.form hL
  have hlm : t.ks.length ≤ 9223372036854775807 := hlm
  have B1 : Hid (Below w.heap.size w (w.alloc (.cells #[.int .i64 t.k, .int .i64 t.n, .slice a' t.ls.length c', .slice a t.ks.length c] TY))) := bl_alloc (Below.refl _ _) _
  have XA : Hid (Arr (w.alloc (.cells #[.int .i64 t.k, .int .i64 t.n, .slice a' t.ls.length c', .slice a t.ks.length c] TY)) w.heap.size TY [.int .i64 t.k, .int .i64 t.n, .slice a' t.ls.length c', .slice a t.ks.length c]) := ⟨heap_alloc_at _ _⟩
  have SQ : Hid (∀ wz m', Below w.heap.size w wz → Calls Tryz.prog 12 #[.agg #[.int .i64 t.k, .int .i64 t.n, .slice a' t.ls.length c', .slice a t.ks.length c], .int .i64 m'] wz fun e w' => e = .returned (.int .i64 (t.size m')) ∧ Below wz.heap.size wz w') := fun wz m' hz => Size_any wz (n + 1) _ t m' (hT.below hz) (by omega)
  have KQ : Hid (∀ wz i x, Below w.heap.size w wz → t.ks[i]? = some x → ∃ b o k1 k2 k3 k4, a = some ⟨b, o, none⟩ ∧ t.ks.length ≤ c ∧ wz.cell? ⟨b, o + i * 4, none⟩ = some (.int .i64 x.k) ∧ wz.cell? ⟨b, o + i * 4 + 1, none⟩ = some (.int .i64 x.n) ∧ wz.cell? ⟨b, o + i * 4 + 2, none⟩ = some (.slice k1 x.ls.length k2) ∧ wz.cell? ⟨b, o + i * 4 + 3, none⟩ = some (.slice k3 x.ks.length k4) ∧ Calls Tryz.prog 12 #[.agg #[.int .i64 x.k, .int .i64 x.n, .slice k1 x.ls.length k2, .slice k3 x.ks.length k4], .int .i64 1099511627776] wz fun e w' => e = .returned (.int .i64 x.cnt) ∧ Below wz.heap.size wz w') := fun wz i x hz hx => by
    have h2 := TAtL.below hL hz
    obtain ⟨b, o, ea, hP⟩ := h2.elem hx
    obtain ⟨n', rfl⟩ := hP.pos
    obtain ⟨k1, k2, k3, k4, z0, z1, z2, z3, q1, q2, q3, q4⟩ := hP.cells
    have hcap : t.ks.length ≤ c := by
      rcases h2 with ⟨_, _, _, hv, _, hl, _⟩ | ⟨h0, -⟩
      · injection hv with e1 e2 e3; subst e3; exact hl
      · rw [h0]; exact Nat.zero_le _
    have hxc : x.cnt ≤ 1048576 := by
      have h3 := Tt.cntL_drop hx
      have h4 := Tt.cnt_ks t
      have h5 := Tt.cntL_drop_le t.ks i
      omega
    refine ⟨b, o, k1, k2, k3, k4, ea, hcap, z0, z1, z2, z3, ?_⟩
    have := Size_any wz (n' + 1) _ x 1099511627776 (show TAt wz Any (n' + 1) [.int .i64 x.k, .int .i64 x.n, .slice k1 x.ls.length k2, .slice k3 x.ks.length k4] x from ⟨_, _, rfl, q1, q2, q3, q4⟩) (by omega)
    rw [Tt.size_big hxc] at this
    exact this
  have AQ : Hid (∀ wz, Below w.heap.size w wz → Calls Tryz.prog 16 #[] wz fun e w' => e = .returned (.bool true) ∧ Below wz.heap.size wz w') := fun wz hz => alive_any wz (hW.stays hz)
  have HB : Hid (t.size 1099511627776 = t.cnt) := Tt.size_big hc
  have HK : Hid (t.cnt = Tt.cntL t.ks + 1) := Tt.cnt_ks t
  have HC := hid hc
  have HM := hid hm
  have HX : Hid (∀ wz, Below (w.alloc (.cells #[.int .i64 t.k, .int .i64 t.n, .slice a' t.ls.length c', .slice a t.ks.length c] TY)).heap.size (w.alloc (.cells #[.int .i64 t.k, .int .i64 t.n, .slice a' t.ls.length c', .slice a t.ks.length c] TY)) wz → ∀ j, wz.cell? ⟨w.heap.size, j, none⟩ = [.int .i64 t.k, .int .i64 t.n, .slice a' t.ls.length c', .slice a t.ks.length c][j]?) := fun wz hz j => (XA.out.stays hz).cell j
  have q0 := SQ.out (w.alloc (.cells #[.int .i64 t.k, .int .i64 t.n, .slice a' t.ls.length c', .slice a t.ks.length c] TY)) 1099511627776 B1.out
  rw [HB.out] at q0
  have Q0 := hid q0
  clear hT hS hL hk hn hc hm q0 hW
  have x1 := XA.out.cell
  go_enter Tryz.func6, Tryz.ntmps6
  go_wp2_with (go_at_call 12; refine (Q0.out).mono ?_; rintro e w2 ⟨rfl, b2⟩; clear Q0)
  have B2 := hid (bl_tr B1.out b2)
  have HX : Hid (∀ wz, Below w2.heap.size w2 wz → ∀ j, wz.cell? ⟨w.heap.size, j, none⟩ = [.int .i64 t.k, .int .i64 t.n, .slice a' t.ls.length c', .slice a t.ks.length c][j]?) := fun wz hz j => HX.out wz (bl_tr b2 hz) j
  clear b2 x1 XA
  go_loopw [6, 7] (fun sv iv wr => ∃ (i s : Nat), sv = .int .i64 s ∧ iv = .int .i64 i ∧ i ≤ t.ks.length ∧ Hid (s + Tt.cntL (t.ks.drop i) = t.cnt) ∧ Hid (Below w2.heap.size w2 wr)) (fun _ v _ => t.ks.length - (intOf v).toNat)
  case atStart => exact ⟨0, 1, rfl, rfl, Nat.zero_le _, hid (by have := HK.out; simp; omega), hid (Below.refl _ _)⟩
  case round =>
    obtain ⟨i, s, rfl, rfl, hil, hs, hb⟩ := hrel
    have x3 := HX.out _ hb.out
    have bw := bl_tr B2.out hb.out
    by_cases hlt : i < t.ks.length
    · obtain ⟨x, hx⟩ : ∃ x, t.ks[i]? = some x := ⟨_, List.getElem?_eq_getElem hlt⟩
      obtain ⟨kb, ko, k1, k2, k3, k4, rfl, hcap, z0, z1, z2, z3, hq⟩ := KQ.out wr i x bw hx
      have HC2 : Hid (Tt.cntL (t.ks.drop i) = x.cnt + Tt.cntL (t.ks.drop (i + 1))) := Tt.cntL_drop hx
      have hlt2 : (i : Int) < t.ks.length := by omega
      have HQ := hid hq
      have hsw : IntKind.i64.wrap ((s : Int) + x.cnt) = ((s + x.cnt : Nat) : Int) := by have := hs.out; have := HC2.out; have := HC.out; rw [IntKind.wrap_i64]; omega
      clear hq hx bw
      go_wp2_with (go_at_call 12; refine (HQ.out).mono ?_; rintro e w3 ⟨rfl, b3⟩; clear HQ)
      go_roundw
      case rel => exact ⟨i + 1, s + x.cnt, by first | rfl | go_num, by go_num, by omega, hid (by have := hs.out; have := HC2.out; omega), hid (bl_tr hb.out b3)⟩
      case measure => simp [intOf]; omega
    · have hd : t.ks.drop i = [] := List.drop_eq_nil_of_le (by omega)
      have hsc : s = t.cnt := by have h1 := hs.out; rw [hd, Tt.cntL] at h1; omega
      subst hsc
      have hne : ((t.cnt : Int) != (t.cnt : Int)) = false := by simp
      have hi2 : ¬ (i : Int) < t.ks.length := by omega
      have QA := hid (AQ.out wr bw)
      have BW := hid bw
      have BR := hid hb.out
      clear hd bw hs hb KQ
      by_cases hm0 : m < 0
      · have SZ : Hid (t.size m = 0) := Tt.size_neg hm0
        go_wp2_with (first
          | (go_at_call 16; refine (QA.out).mono ?_; rintro e w3 ⟨rfl, b3⟩; have x4 := HX.out _ (bl_tr BR.out b3); have BW3 := hid (bl_tr BW.out b3); have Q3 := (SQ.out _ m BW3.out); rw [SZ.out] at Q3; have HQ3 := hid Q3; clear QA b3 Q3)
          | (go_at_call 12; refine (HQ3.out).mono ?_; rintro e w4 ⟨rfl, b4⟩; clear HQ3))
        go_ret
        exact ⟨rfl, bl_tr BW3.out b4⟩
      · by_cases hm1 : m < t.cnt
        · have SZ : Hid (t.size m = m + 1) := Tt.size_cut hm0 hm1
          have hgt : (t.cnt : Int) > m := hm1
          have hmw : IntKind.i64.wrap (m + 1) = m + 1 := by have := HC.out; rw [IntKind.wrap_i64]; omega
          go_wp2_with (first
            | (go_at_call 16; refine (QA.out).mono ?_; rintro e w3 ⟨rfl, b3⟩; have x4 := HX.out _ (bl_tr BR.out b3); have BW3 := hid (bl_tr BW.out b3); have Q3 := (SQ.out _ m BW3.out); rw [SZ.out] at Q3; have HQ3 := hid Q3; clear QA b3 Q3)
            | (go_at_call 12; refine (HQ3.out).mono ?_; rintro e w4 ⟨rfl, b4⟩; clear HQ3))
          go_ret
          exact ⟨by simp, bl_tr BW3.out b4⟩
        · have SZ : Hid (t.size m = t.cnt) := Tt.size_fit hm0 hm1
          have hgt : ¬ (t.cnt : Int) > m := hm1
          go_wp2_with (first
            | (go_at_call 16; refine (QA.out).mono ?_; rintro e w3 ⟨rfl, b3⟩; have x4 := HX.out _ (bl_tr BR.out b3); have BW3 := hid (bl_tr BW.out b3); have Q3 := (SQ.out _ m BW3.out); rw [SZ.out] at Q3; have HQ3 := hid Q3; clear QA b3 Q3)
            | (go_at_call 12; refine (HQ3.out).mono ?_; rintro e w4 ⟨rfl, b4⟩; clear HQ3))
          go_ret
          exact ⟨by simp, bl_tr BW3.out b4⟩
end Go.Proofs.YtfeppchgmobfpaaGreatDoor
