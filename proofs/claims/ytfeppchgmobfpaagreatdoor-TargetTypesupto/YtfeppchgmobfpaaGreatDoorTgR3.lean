/- The document's Size. -/
import Derived.Test.YtfeppchgmobfpaaGreatDoorTgR1
import Derived.Test.YtfeppchgmobfpaaGreatDoorTgM
namespace Go.Proofs.YtfeppchgmobfpaaGreatDoor
open Go.RowKit
set_option linter.unusedVariables false
set_option linter.unusedSimpArgs false

def RSizeOf (n : Nat) : Prop := ∀ (w : World) (a' : Option Addr) (c' : Nat) (a : Option Addr) (c : Nat) (t : Tt) (m : Int), TAt w Any n [.int .i64 t.k, .int .i64 t.n, .slice a' t.ls.length c', .slice a t.ks.length c] t → R64 m → t.cnt ≤ 4611686018427387904 →
  Calls Tryz.prog 13 #[.agg #[.int .i64 t.k, .int .i64 t.n, .slice a' t.ls.length c', .slice a t.ks.length c], .int .i64 m] w fun e w' => e = .returned (.int .i64 (t.size m)) ∧ Below w.heap.size w w'

set_option maxHeartbeats 1000000 in
set_option maxRecDepth 100000 in
theorem rsize_step (n : Nat) (ih : RSizeOf n) : RSizeOf (n + 1) := by
  intro w a' c' a c t m h hr hct
  obtain ⟨_, _, hv, -, -, -, hL⟩ := h
  injection hv with _ hv; injection hv with _ hv; injection hv with e2 hv; injection hv with e3 _
  subst e2 e3
  have hlm : t.ks.length ≤ 9223372036854775807 := by obtain ⟨_, _, _, hm⟩ := TAtL.form hL; exact hm
  have XA : Hid (Arr (w.alloc (.cells #[.int .i64 t.k, .int .i64 t.n, .slice a' t.ls.length c', .slice a t.ks.length c] TY)) w.heap.size TY [.int .i64 t.k, .int .i64 t.n, .slice a' t.ls.length c', .slice a t.ks.length c]) := ⟨heap_alloc_at _ _⟩
  have B1 : Hid (Below w.heap.size w (w.alloc (.cells #[.int .i64 t.k, .int .i64 t.n, .slice a' t.ls.length c', .slice a t.ks.length c] TY))) := bl_alloc (Below.refl _ _) _
  have HX : Hid (∀ wz, Below (w.alloc (.cells #[.int .i64 t.k, .int .i64 t.n, .slice a' t.ls.length c', .slice a t.ks.length c] TY)).heap.size (w.alloc (.cells #[.int .i64 t.k, .int .i64 t.n, .slice a' t.ls.length c', .slice a t.ks.length c] TY)) wz → ∀ j, wz.cell? ⟨w.heap.size, j, none⟩ = [.int .i64 t.k, .int .i64 t.n, .slice a' t.ls.length c', .slice a t.ks.length c][j]?) := fun wz hz j => (XA.out.stays hz).cell j
  have HL : Hid (∀ wz, Below w.heap.size w wz → TAtL wz Any n (.slice a t.ks.length c) t.ks) := fun wz hz => TAtL.below hL hz
  have hck := Tt.cnt_ks t
  have HIH := hid ih
  clear hL ih
  unfold Tt.size
  by_cases hm : m < 0
  · rw [if_pos hm]
    clear hck hct
    go_enter Tryz.func13, Tryz.ntmps13
    go_wp2
    go_ret
    exact ⟨rfl, B1.out⟩
  · rw [if_neg hm]
    have HR : Hid ((Tt.up m t.cnt).1 = (Tt.up m (1 + (Tt.cntL (t.ks.drop 0) : Int))).1) := by show _ = _; rw [List.drop_zero, hck]; congr 2; omega
    have H0 : Hid (1 ≤ m + 1 ∧ (1 : Int) + Tt.cntL (t.ks.drop 0) ≤ 4611686018427387904) := by show _ ∧ _; rw [List.drop_zero]; omega
    have HM := hid (And.intro hr hm)
    generalize (Tt.up m t.cnt).1 = res at HR ⊢
    clear hck hct hr
    go_enter Tryz.func13, Tryz.ntmps13
    go_wp2
    go_loopw [5, 6] (fun sv iv wr => ∃ (i : Nat) (s : Int), sv = .int .i64 s ∧ iv = .int .i64 i ∧ i ≤ t.ks.length ∧ Hid (1 ≤ s ∧ s ≤ m + 1 ∧ s + (Tt.cntL (t.ks.drop i) : Int) ≤ 4611686018427387904) ∧ Hid (res = (Tt.up m (s + (Tt.cntL (t.ks.drop i) : Int))).1) ∧ Hid (Below (w.alloc (.cells #[.int .i64 t.k, .int .i64 t.n, .slice a' t.ls.length c', .slice a t.ks.length c] TY)).heap.size (w.alloc (.cells #[.int .i64 t.k, .int .i64 t.n, .slice a' t.ls.length c', .slice a t.ks.length c] TY)) wr)) (fun _ v _ => t.ks.length - (intOf v).toNat)
    case atStart => exact ⟨0, 1, rfl, rfl, Nat.zero_le _, hid ⟨by decide, H0.out.1, H0.out.2⟩, HR, hid (Below.refl _ _)⟩
    case round =>
      obtain ⟨i, s, rfl, rfl, hil, hs, hr, hb⟩ := hrel
      have x3 := HX.out _ hb.out
      have BW := hid (bl_tr B1.out hb.out)
      by_cases hsm : s ≤ m
      · by_cases hlt : i < t.ks.length
        · obtain ⟨x, hx⟩ : ∃ x, t.ks[i]? = some x := ⟨_, List.getElem?_eq_getElem hlt⟩
          obtain ⟨kb, ko, k1, k2, k3, k4, rfl, hcap, z0, z1, z2, z3, hT⟩ := (HL.out wr BW.out).load hx
          have hcx : Tt.cntL (t.ks.drop i) = x.cnt + Tt.cntL (t.ks.drop (i + 1)) := by rw [Tt.drop_at hx, Tt.cntL]
          have hw : IntKind.i64.wrap (m - s) = m - s := by have := hs.out; have := HM.out.1; unfold R64 at this; rw [IntKind.wrap_i64]; omega
          have HQ := hid (HIH.out wr k1 k2 k3 k4 x (m - s) hT (by have := hs.out; have := HM.out.1; unfold R64 at this ⊢; omega) (by have := hs.out; omega))
          have hq : Hid ((x.size (m - s) = x.cnt ∧ (x.cnt : Int) ≤ m - s) ∨ (x.size (m - s) = m - s + 1 ∧ ¬ (x.cnt : Int) ≤ m - s)) := by
            show _ ∨ _
            unfold Tt.size Tt.up
            rw [if_neg (by omega)]
            by_cases h9 : (x.cnt : Int) ≤ m - s
            · exact .inl ⟨by rw [if_pos h9], h9⟩
            · exact .inr ⟨by rw [if_neg h9], h9⟩
          generalize x.size (m - s) = q at HQ hq
          have hw2 : IntKind.i64.wrap (s + q) = s + q := by
            rw [IntKind.wrap_i64]
            have := hs.out
            rcases hq.out with ⟨h1, h2⟩ | ⟨h1, h2⟩ <;> omega
          have hlt2 : (i : Int) < t.ks.length := by omega
          have HS2 : Hid (1 ≤ s + q ∧ s + q ≤ m + 1 ∧ s + q + (Tt.cntL (t.ks.drop (i + 1)) : Int) ≤ 4611686018427387904) := by
            have := hs.out
            show _ ∧ _ ∧ _
            rcases hq.out with ⟨h1, h2⟩ | ⟨h1, h2⟩ <;> omega
          have HR2 : Hid (res = (Tt.up m (s + q + (Tt.cntL (t.ks.drop (i + 1)) : Int))).1) := by
            show _ = _
            rw [hr.out, hcx]
            unfold Tt.up
            rcases hq.out with ⟨h1, h2⟩ | ⟨h1, h2⟩
            · rw [h1]
              congr 1
              push_cast
              rw [← Int.add_assoc]
            · rw [if_neg (by push_cast; omega), if_neg (by push_cast; omega)]
          clear hr hx hT hcx hq hs
          go_wp2_with (go_at_call 13; refine (HQ.out).mono ?_; rintro e w3 ⟨rfl, b3⟩; clear HQ)
          go_roundw
          case rel => exact ⟨i + 1, s + q, by first | rfl | go_num, by first | rfl | go_num, by omega, HS2, HR2, hid (bl_tr hb.out b3)⟩
          case measure => simp [intOf]; omega
        · have HR2 : Hid (res = s) := by show _ = _; rw [hr.out, List.drop_eq_nil_of_le (by omega), Tt.cntL]; unfold Tt.up; rw [if_pos (by simpa using hsm)]; simp
          have hi2 : ¬ (i : Int) < t.ks.length := by omega
          have hgt : ¬ s > m := by omega
          clear hr hs
          go_wp2
          go_ret
          exact ⟨ret_int HR2.out.symm, BW.out⟩
      · have hse : Hid (s = m + 1) := by have := hs.out; show _ = _; omega
        have hw : IntKind.i64.wrap (m + 1) = m + 1 := by have := hs.out; have := HM.out.1; unfold R64 at this; rw [IntKind.wrap_i64]; omega
        have HR2 : Hid (res = m + 1) := by show _ = _; rw [hr.out, hse.out]; unfold Tt.up; rw [if_neg (by omega)]
        have hgt : s > m := by omega
        by_cases hlt : i < t.ks.length
        · have hlt2 : (i : Int) < t.ks.length := by omega
          clear hr hs
          go_wp2
          go_ret
          exact ⟨ret_int HR2.out.symm, BW.out⟩
        · have hi2 : ¬ (i : Int) < t.ks.length := by omega
          clear hr hs
          go_wp2
          go_ret
          exact ⟨ret_int HR2.out.symm, BW.out⟩
theorem rsize_any : ∀ n, RSizeOf n
  | 0 => fun w a' c' a c t m h => h.elim
  | n + 1 => rsize_step n (rsize_any n)
end Go.Proofs.YtfeppchgmobfpaaGreatDoor
