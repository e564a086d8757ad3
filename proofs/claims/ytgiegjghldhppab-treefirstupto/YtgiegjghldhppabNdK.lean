/- How many nodes and how deep, where nothing wraps round. -/
import Derived.Test.YtgiegjghldhppabNdN
namespace Go.Proofs.Ytgiegjghldhppab
open Go.RowKit
set_option linter.unusedVariables false

theorem wrap64_id {x : Int} (h : -9223372036854775808 ≤ x ∧ x ≤ 9223372036854775807) : wrap64 x = x := by unfold wrap64; omega
mutual
theorem Nd.dep_le : ∀ nd : Nd, nd.dep ≤ nd.cnt
  | .mk _ ks => by
    have h := Nd.depLL_le ks
    rw [Nd.dep, Nd.cnt]; omega
theorem Nd.depLL_le : ∀ ks : List (List Nd), Nd.depLL ks ≤ Nd.cntLL ks
  | [] => by rw [Nd.depLL, Nd.cntLL]; omega
  | l :: r => by
    have h1 := Nd.depL_le l
    have h2 := Nd.depLL_le r
    rw [Nd.depLL, Nd.cntLL]; omega
theorem Nd.depL_le : ∀ l : List Nd, Nd.depL l ≤ Nd.cntL l
  | [] => by rw [Nd.depL, Nd.cntL]; omega
  | x :: r => by
    have h1 := Nd.dep_le x
    have h2 := Nd.depL_le r
    rw [Nd.depL, Nd.cntL]; omega
end
mutual
theorem Nd.run_eq : ∀ (nd : Nd) (s : Mst), 0 ≤ s.a → 0 ≤ s.t → s.t ≤ s.d → s.a + nd.cnt ≤ 4611686018427387904 → s.t + nd.dep ≤ 4611686018427387904 → nd.run s = ⟨s.a + nd.cnt, max s.d (s.t + nd.dep), s.t⟩
  | .mk sc ks, s, h1, h2, h3, h4, h5 => by
    rw [Nd.cnt] at h4
    rw [Nd.dep] at h5
    have e1 : wrap64 (s.a + 1) = s.a + 1 := wrap64_id (by omega)
    have e2 : wrap64 (s.t + 1) = s.t + 1 := wrap64_id (by omega)
    have hE : s.enter = ⟨s.a + 1, max s.d (s.t + 1), s.t + 1⟩ := by unfold Mst.enter; rw [e1, e2]
    have h := Nd.runLL_eq ks ⟨s.a + 1, max s.d (s.t + 1), s.t + 1⟩ (by show 0 ≤ s.a + 1; omega) (by show 0 ≤ s.t + 1; omega) (by show s.t + 1 ≤ max s.d (s.t + 1); omega) (by show s.a + 1 + _ ≤ _; omega) (by show s.t + 1 + _ ≤ _; omega)
    rw [Nd.run, Nd.cnt, Nd.dep]
    show (Nd.runLL ks s.enter).leave = _
    rw [hE, h]
    have e3 : wrap64 (s.t + 1 - 1) = s.t := by rw [wrap64_id (by omega)]; omega
    show Mst.mk (s.a + 1 + (Nd.cntLL ks : Int)) (max (max s.d (s.t + 1)) (s.t + 1 + (Nd.depLL ks : Int))) (wrap64 (s.t + 1 - 1)) = _
    rw [e3, Mst.mk.injEq]
    exact ⟨by omega, by omega, rfl⟩
theorem Nd.runLL_eq : ∀ (ks : List (List Nd)) (s : Mst), 0 ≤ s.a → 0 ≤ s.t → s.t ≤ s.d → s.a + Nd.cntLL ks ≤ 4611686018427387904 → s.t + Nd.depLL ks ≤ 4611686018427387904 → Nd.runLL ks s = ⟨s.a + Nd.cntLL ks, max s.d (s.t + Nd.depLL ks), s.t⟩
  | [], s, h1, h2, h3, h4, h5 => by
    rw [Nd.runLL, Nd.cntLL, Nd.depLL]
    obtain ⟨a, d, t⟩ := s
    change t ≤ d at h3
    show Mst.mk a d t = ⟨a + ((0 : Nat) : Int), max d (t + ((0 : Nat) : Int)), t⟩
    rw [Mst.mk.injEq]
    exact ⟨by omega, by omega, rfl⟩
  | l :: r, s, h1, h2, h3, h4, h5 => by
    rw [Nd.cntLL] at h4
    rw [Nd.depLL] at h5
    have hl := Nd.runL_eq l s h1 h2 h3 (by omega) (by omega)
    have hr := Nd.runLL_eq r ⟨s.a + Nd.cntL l, max s.d (s.t + Nd.depL l), s.t⟩ (by show 0 ≤ s.a + _; omega) h2 (by show s.t ≤ max s.d _; omega) (by show s.a + _ + _ ≤ _; omega) (by show s.t + _ ≤ _; omega)
    rw [Nd.runLL, Nd.cntLL, Nd.depLL]
    show Nd.runLL r (Nd.runL l s) = _
    rw [hl, hr, Mst.mk.injEq]
    exact ⟨by show s.a + _ + _ = _; omega, by show max (max s.d _) (s.t + _) = _; omega, rfl⟩
theorem Nd.runL_eq : ∀ (l : List Nd) (s : Mst), 0 ≤ s.a → 0 ≤ s.t → s.t ≤ s.d → s.a + Nd.cntL l ≤ 4611686018427387904 → s.t + Nd.depL l ≤ 4611686018427387904 → Nd.runL l s = ⟨s.a + Nd.cntL l, max s.d (s.t + Nd.depL l), s.t⟩
  | [], s, h1, h2, h3, h4, h5 => by
    rw [Nd.runL, Nd.cntL, Nd.depL]
    obtain ⟨a, d, t⟩ := s
    change t ≤ d at h3
    show Mst.mk a d t = ⟨a + ((0 : Nat) : Int), max d (t + ((0 : Nat) : Int)), t⟩
    rw [Mst.mk.injEq]
    exact ⟨by omega, by omega, rfl⟩
  | x :: r, s, h1, h2, h3, h4, h5 => by
    rw [Nd.cntL] at h4
    rw [Nd.depL] at h5
    have hl := Nd.run_eq x s h1 h2 h3 (by omega) (by omega)
    have hr := Nd.runL_eq r ⟨s.a + x.cnt, max s.d (s.t + x.dep), s.t⟩ (by show 0 ≤ s.a + _; omega) h2 (by show s.t ≤ max s.d _; omega) (by show s.a + _ + _ ≤ _; omega) (by show s.t + _ ≤ _; omega)
    rw [Nd.runL, Nd.cntL, Nd.depL]
    show Nd.runL r (Nd.run x s) = _
    rw [hl, hr, Mst.mk.injEq]
    exact ⟨by show s.a + _ + _ = _; omega, by show max (max s.d _) (s.t + _) = _; omega, rfl⟩
end
theorem Nd.meter_eq {l : List Nd} (h : Nd.cntL l ≤ 4194304) : Nd.meter l = ⟨Nd.cntL l, Nd.depL l, 0⟩ := by
  have hd := Nd.depL_le l
  unfold Nd.meter
  rw [Nd.runL_eq l ⟨0, 0, 0⟩ (Int.le_refl _) (Int.le_refl _) (Int.le_refl _) (by show (0 : Int) + _ ≤ _; omega) (by show (0 : Int) + _ ≤ _; omega), Mst.mk.injEq]
  exact ⟨by show (0 : Int) + _ = _; omega, by show max (0 : Int) (0 + _) = _; omega, rfl⟩
theorem Nd.cntL_append : ∀ a b : List Nd, Nd.cntL (a ++ b) = Nd.cntL a + Nd.cntL b
  | [], b => by rw [List.nil_append, Nd.cntL, Nat.zero_add]
  | x :: r, b => by rw [List.cons_append, Nd.cntL, Nd.cntL, Nd.cntL_append r b]; omega
theorem Nd.depL_append : ∀ a b : List Nd, Nd.depL (a ++ b) = max (Nd.depL a) (Nd.depL b)
  | [], b => by rw [List.nil_append, Nd.depL]; omega
  | x :: r, b => by rw [List.cons_append, Nd.depL, Nd.depL, Nd.depL_append r b]; omega
theorem Nd.cnt_pos : ∀ x : Nd, 0 < x.cnt
  | .mk _ ks => by rw [Nd.cnt]; omega
theorem Nd.cntL_zero : ∀ l : List Nd, Nd.cntL l = 0 ↔ l.length = 0
  | [] => by rw [Nd.cntL]; simp
  | x :: r => by
    have := Nd.cnt_pos x
    rw [Nd.cntL, List.length_cons]
    constructor <;> intro h <;> omega
end Go.Proofs.Ytgiegjghldhppab
