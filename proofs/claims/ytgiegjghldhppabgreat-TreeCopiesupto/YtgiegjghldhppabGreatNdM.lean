/- The meter gone through lists and nodes. -/
import Derived.Test.YtgiegjghldhppabGreatNdM0
namespace Go.Proofs.YtgiegjghldhppabGreat
open Go.RowKit
set_option linter.unusedVariables false

theorem Nd.runL_at {xs : List Nd} {k : Nat} {x : Nd} (hx : xs[k]? = some x) (s : Mst) : Nd.runL (xs.drop k) s = Nd.runL (xs.drop (k + 1)) (x.run s) := by
  obtain ⟨h1, e1⟩ := List.getElem?_eq_some_iff.1 hx
  rw [List.drop_eq_getElem_cons h1, e1, Nd.runL]
/-- What the contract of a method that goes through a node says. -/
def MeterOf (f : FuncId) (n s : Nat) : Prop := ∀ (w : World) (K : Nat → Prop) (M : Nat) (st : Mst) (b o : Nat) (vs : List Value) (nd : Nd), ¬ K M → K b → Cells w b o vs → At w K n s vs nd → Mt w M st →
  Calls Tryz.prog f #[.pointer (some ⟨M, 0, none⟩), .pointer (some ⟨b, o, none⟩)] w fun e w' => e = .returned (.tuple #[]) ∧ Mt w' M (nd.run st) ∧ Save M w w'
def MeterLOf (f : FuncId) (g : FuncId) (n s : Nat) : Prop := ∀ (w : World) (K : Nat → Prop) (M : Nat) (st : Mst) (v : Value) (l : List Nd), ¬ K M → AtL w K n s v l → Mt w M st →
  Calls Tryz.prog f #[v, .func (.func g) #[.pointer (some ⟨M, 0, none⟩)] #[]] w fun e w' => e = .returned (.tuple #[]) ∧ Mt w' M (Nd.runL l st) ∧ Save M w w'

set_option maxHeartbeats 1000000 in
theorem eachM0 (n : Nat) (ih : MeterOf 79 n 0) : MeterLOf 52 79 n 0 := by
  intro w K M st v l hM hv hm
  obtain ⟨a1, c1, e1, hx⟩ := hv.form
  unfold maxLen at hx
  by_cases h0 : l = []
  · subst h0
    subst e1
    clear hv
    go_enter Tryz.func52, Tryz.ntmps52
    go_wp2
    go_loopw [7] (fun v wr => v = .int .i64 0 ∧ wr = w) (fun _ _ => 0)
    case atStart => exact ⟨rfl, rfl⟩
    case round =>
      obtain ⟨rfl, rfl⟩ := hrel
      go_wp2
      go_end0
      exact ⟨rfl, hm, Save.refl _ _⟩
  · clear e1
    obtain ⟨b, o, c, rfl, hb, -, -, hk⟩ := hv.resolve_right (fun h => h0 h.1)
    clear hv h0
    go_enter Tryz.func52, Tryz.ntmps52
    go_wp2
    go_loopw [7] (fun v wr => ∃ (k : Nat) (s1 : Mst), v = .int .i64 k ∧ k ≤ l.length ∧ Hid (Nd.runL l st = Nd.runL (l.drop k) s1) ∧ Mt wr M s1 ∧ Save M w wr) (fun v _ => l.length - (intOf v).toNat)
    case atStart => exact ⟨0, st, rfl, Nat.zero_le _, rfl, hm, Save.refl _ _⟩
    case round =>
      obtain ⟨k, s1, rfl, hkl, hH, hm1, hS⟩ := hrel
      by_cases hlt : k < l.length
      · obtain ⟨x, hxk⟩ : ∃ x, l[k]? = some x := ⟨_, List.getElem?_eq_getElem hlt⟩
        obtain ⟨vs, -, hc, ha⟩ := hk k x hxk
        have HX : Hid (Nd.runL l st = Nd.runL (l.drop (k + 1)) (x.run s1)) := by
          show _ = _
          rw [hH.out, Nd.runL_at hxk]
        have hq := ih wr K M s1 b (o + k * 4) vs x hM hb (hc.move hb (Keeps.of_save hS hM)) (At.move (Keeps.of_save hS hM) (fun _ h => h) _ _ _ _ ha) hm1
        clear hH hk hc ha hxk hm
        go_wp2_with (go_at_call 79; refine hq.mono ?_; rintro e w2 ⟨rfl, hm2, hs2⟩)
        go_roundw
        case rel => exact ⟨k + 1, _, by go_num, by omega, HX, hm2, hS.trans hs2⟩
        case measure => simp [intOf]; omega
      · have HX : Hid (Nd.runL l st = s1) := by
          show _ = _
          rw [hH.out, List.drop_eq_nil_of_le (by omega), Nd.runL]
        clear hH hk
        go_wp2
        go_end0
        exact ⟨rfl, by rw [HX.out]; exact hm1, hS⟩

set_option maxHeartbeats 1000000 in
theorem eachM1 (n : Nat) (ih : MeterOf 78 n 1) : MeterLOf 77 78 n 1 := by
  intro w K M st v l hM hv hm
  obtain ⟨a1, c1, e1, hx⟩ := hv.form
  unfold maxLen at hx
  by_cases h0 : l = []
  · subst h0
    subst e1
    clear hv
    go_enter Tryz.func77, Tryz.ntmps77
    go_wp2
    go_loopw [7] (fun v wr => v = .int .i64 0 ∧ wr = w) (fun _ _ => 0)
    case atStart => exact ⟨rfl, rfl⟩
    case round =>
      obtain ⟨rfl, rfl⟩ := hrel
      go_wp2
      go_end0
      exact ⟨rfl, hm, Save.refl _ _⟩
  · clear e1
    obtain ⟨b, o, c, rfl, hb, -, -, hk⟩ := hv.resolve_right (fun h => h0 h.1)
    clear hv h0
    go_enter Tryz.func77, Tryz.ntmps77
    go_wp2
    go_loopw [7] (fun v wr => ∃ (k : Nat) (s1 : Mst), v = .int .i64 k ∧ k ≤ l.length ∧ Hid (Nd.runL l st = Nd.runL (l.drop k) s1) ∧ Mt wr M s1 ∧ Save M w wr) (fun v _ => l.length - (intOf v).toNat)
    case atStart => exact ⟨0, st, rfl, Nat.zero_le _, rfl, hm, Save.refl _ _⟩
    case round =>
      obtain ⟨k, s1, rfl, hkl, hH, hm1, hS⟩ := hrel
      by_cases hlt : k < l.length
      · obtain ⟨x, hxk⟩ : ∃ x, l[k]? = some x := ⟨_, List.getElem?_eq_getElem hlt⟩
        obtain ⟨vs, -, hc, ha⟩ := hk k x hxk
        have HX : Hid (Nd.runL l st = Nd.runL (l.drop (k + 1)) (x.run s1)) := by
          show _ = _
          rw [hH.out, Nd.runL_at hxk]
        have hq := ih wr K M s1 b (o + k * 5) vs x hM hb (hc.move hb (Keeps.of_save hS hM)) (At.move (Keeps.of_save hS hM) (fun _ h => h) _ _ _ _ ha) hm1
        clear hH hk hc ha hxk hm
        go_wp2_with (go_at_call 78; refine hq.mono ?_; rintro e w2 ⟨rfl, hm2, hs2⟩)
        go_roundw
        case rel => exact ⟨k + 1, _, by go_num, by omega, HX, hm2, hS.trans hs2⟩
        case measure => simp [intOf]; omega
      · have HX : Hid (Nd.runL l st = s1) := by
          show _ = _
          rw [hH.out, List.drop_eq_nil_of_le (by omega), Nd.runL]
        clear hH hk
        go_wp2
        go_end0
        exact ⟨rfl, by rw [HX.out]; exact hm1, hS⟩

set_option maxHeartbeats 1000000 in
theorem eachM2 (n : Nat) (ih : MeterOf 48 n 2) : MeterLOf 54 48 n 2 := by
  intro w K M st v l hM hv hm
  obtain ⟨a1, c1, e1, hx⟩ := hv.form
  unfold maxLen at hx
  by_cases h0 : l = []
  · subst h0
    subst e1
    clear hv
    go_enter Tryz.func54, Tryz.ntmps54
    go_wp2
    go_loopw [7] (fun v wr => v = .int .i64 0 ∧ wr = w) (fun _ _ => 0)
    case atStart => exact ⟨rfl, rfl⟩
    case round =>
      obtain ⟨rfl, rfl⟩ := hrel
      go_wp2
      go_end0
      exact ⟨rfl, hm, Save.refl _ _⟩
  · clear e1
    obtain ⟨b, o, c, rfl, hb, -, -, hk⟩ := hv.resolve_right (fun h => h0 h.1)
    clear hv h0
    go_enter Tryz.func54, Tryz.ntmps54
    go_wp2
    go_loopw [7] (fun v wr => ∃ (k : Nat) (s1 : Mst), v = .int .i64 k ∧ k ≤ l.length ∧ Hid (Nd.runL l st = Nd.runL (l.drop k) s1) ∧ Mt wr M s1 ∧ Save M w wr) (fun v _ => l.length - (intOf v).toNat)
    case atStart => exact ⟨0, st, rfl, Nat.zero_le _, rfl, hm, Save.refl _ _⟩
    case round =>
      obtain ⟨k, s1, rfl, hkl, hH, hm1, hS⟩ := hrel
      by_cases hlt : k < l.length
      · obtain ⟨x, hxk⟩ : ∃ x, l[k]? = some x := ⟨_, List.getElem?_eq_getElem hlt⟩
        obtain ⟨vs, -, hc, ha⟩ := hk k x hxk
        have HX : Hid (Nd.runL l st = Nd.runL (l.drop (k + 1)) (x.run s1)) := by
          show _ = _
          rw [hH.out, Nd.runL_at hxk]
        have hq := ih wr K M s1 b (o + k * 8) vs x hM hb (hc.move hb (Keeps.of_save hS hM)) (At.move (Keeps.of_save hS hM) (fun _ h => h) _ _ _ _ ha) hm1
        clear hH hk hc ha hxk hm
        go_wp2_with (go_at_call 48; refine hq.mono ?_; rintro e w2 ⟨rfl, hm2, hs2⟩)
        go_roundw
        case rel => exact ⟨k + 1, _, by go_num, by omega, HX, hm2, hS.trans hs2⟩
        case measure => simp [intOf]; omega
      · have HX : Hid (Nd.runL l st = s1) := by
          show _ = _
          rw [hH.out, List.drop_eq_nil_of_le (by omega), Nd.runL]
        clear hH hk
        go_wp2
        go_end0
        exact ⟨rfl, by rw [HX.out]; exact hm1, hS⟩

set_option maxHeartbeats 1000000 in
theorem eachM3 (n : Nat) (ih : MeterOf 61 n 3) : MeterLOf 24 61 n 3 := by
  intro w K M st v l hM hv hm
  obtain ⟨a1, c1, e1, hx⟩ := hv.form
  unfold maxLen at hx
  by_cases h0 : l = []
  · subst h0
    subst e1
    clear hv
    go_enter Tryz.func24, Tryz.ntmps24
    go_wp2
    go_loopw [7] (fun v wr => v = .int .i64 0 ∧ wr = w) (fun _ _ => 0)
    case atStart => exact ⟨rfl, rfl⟩
    case round =>
      obtain ⟨rfl, rfl⟩ := hrel
      go_wp2
      go_end0
      exact ⟨rfl, hm, Save.refl _ _⟩
  · clear e1
    obtain ⟨b, o, c, rfl, hb, -, -, hk⟩ := hv.resolve_right (fun h => h0 h.1)
    clear hv h0
    go_enter Tryz.func24, Tryz.ntmps24
    go_wp2
    go_loopw [7] (fun v wr => ∃ (k : Nat) (s1 : Mst), v = .int .i64 k ∧ k ≤ l.length ∧ Hid (Nd.runL l st = Nd.runL (l.drop k) s1) ∧ Mt wr M s1 ∧ Save M w wr) (fun v _ => l.length - (intOf v).toNat)
    case atStart => exact ⟨0, st, rfl, Nat.zero_le _, rfl, hm, Save.refl _ _⟩
    case round =>
      obtain ⟨k, s1, rfl, hkl, hH, hm1, hS⟩ := hrel
      by_cases hlt : k < l.length
      · obtain ⟨x, hxk⟩ : ∃ x, l[k]? = some x := ⟨_, List.getElem?_eq_getElem hlt⟩
        obtain ⟨vs, -, hc, ha⟩ := hk k x hxk
        have HX : Hid (Nd.runL l st = Nd.runL (l.drop (k + 1)) (x.run s1)) := by
          show _ = _
          rw [hH.out, Nd.runL_at hxk]
        have hq := ih wr K M s1 b (o + k * 9) vs x hM hb (hc.move hb (Keeps.of_save hS hM)) (At.move (Keeps.of_save hS hM) (fun _ h => h) _ _ _ _ ha) hm1
        clear hH hk hc ha hxk hm
        go_wp2_with (go_at_call 61; refine hq.mono ?_; rintro e w2 ⟨rfl, hm2, hs2⟩)
        go_roundw
        case rel => exact ⟨k + 1, _, by go_num, by omega, HX, hm2, hS.trans hs2⟩
        case measure => simp [intOf]; omega
      · have HX : Hid (Nd.runL l st = s1) := by
          show _ = _
          rw [hH.out, List.drop_eq_nil_of_le (by omega), Nd.runL]
        clear hH hk
        go_wp2
        go_end0
        exact ⟨rfl, by rw [HX.out]; exact hm1, hS⟩

set_option maxHeartbeats 1000000 in
theorem eachM4 (n : Nat) (ih : MeterOf 92 n 4) : MeterLOf 55 92 n 4 := by
  intro w K M st v l hM hv hm
  obtain ⟨a1, c1, e1, hx⟩ := hv.form
  unfold maxLen at hx
  by_cases h0 : l = []
  · subst h0
    subst e1
    clear hv
    go_enter Tryz.func55, Tryz.ntmps55
    go_wp2
    go_loopw [7] (fun v wr => v = .int .i64 0 ∧ wr = w) (fun _ _ => 0)
    case atStart => exact ⟨rfl, rfl⟩
    case round =>
      obtain ⟨rfl, rfl⟩ := hrel
      go_wp2
      go_end0
      exact ⟨rfl, hm, Save.refl _ _⟩
  · clear e1
    obtain ⟨b, o, c, rfl, hb, -, -, hk⟩ := hv.resolve_right (fun h => h0 h.1)
    clear hv h0
    go_enter Tryz.func55, Tryz.ntmps55
    go_wp2
    go_loopw [7] (fun v wr => ∃ (k : Nat) (s1 : Mst), v = .int .i64 k ∧ k ≤ l.length ∧ Hid (Nd.runL l st = Nd.runL (l.drop k) s1) ∧ Mt wr M s1 ∧ Save M w wr) (fun v _ => l.length - (intOf v).toNat)
    case atStart => exact ⟨0, st, rfl, Nat.zero_le _, rfl, hm, Save.refl _ _⟩
    case round =>
      obtain ⟨k, s1, rfl, hkl, hH, hm1, hS⟩ := hrel
      by_cases hlt : k < l.length
      · obtain ⟨x, hxk⟩ : ∃ x, l[k]? = some x := ⟨_, List.getElem?_eq_getElem hlt⟩
        obtain ⟨vs, -, hc, ha⟩ := hk k x hxk
        have HX : Hid (Nd.runL l st = Nd.runL (l.drop (k + 1)) (x.run s1)) := by
          show _ = _
          rw [hH.out, Nd.runL_at hxk]
        have hq := ih wr K M s1 b (o + k * 2) vs x hM hb (hc.move hb (Keeps.of_save hS hM)) (At.move (Keeps.of_save hS hM) (fun _ h => h) _ _ _ _ ha) hm1
        clear hH hk hc ha hxk hm
        go_wp2_with (go_at_call 92; refine hq.mono ?_; rintro e w2 ⟨rfl, hm2, hs2⟩)
        go_roundw
        case rel => exact ⟨k + 1, _, by go_num, by omega, HX, hm2, hS.trans hs2⟩
        case measure => simp [intOf]; omega
      · have HX : Hid (Nd.runL l st = s1) := by
          show _ = _
          rw [hH.out, List.drop_eq_nil_of_le (by omega), Nd.runL]
        clear hH hk
        go_wp2
        go_end0
        exact ⟨rfl, by rw [HX.out]; exact hm1, hS⟩

set_option maxHeartbeats 1000000 in
theorem eachM5 (n : Nat) (ih : MeterOf 93 n 5) : MeterLOf 57 93 n 5 := by
  intro w K M st v l hM hv hm
  obtain ⟨a1, c1, e1, hx⟩ := hv.form
  unfold maxLen at hx
  by_cases h0 : l = []
  · subst h0
    subst e1
    clear hv
    go_enter Tryz.func57, Tryz.ntmps57
    go_wp2
    go_loopw [7] (fun v wr => v = .int .i64 0 ∧ wr = w) (fun _ _ => 0)
    case atStart => exact ⟨rfl, rfl⟩
    case round =>
      obtain ⟨rfl, rfl⟩ := hrel
      go_wp2
      go_end0
      exact ⟨rfl, hm, Save.refl _ _⟩
  · clear e1
    obtain ⟨b, o, c, rfl, hb, -, -, hk⟩ := hv.resolve_right (fun h => h0 h.1)
    clear hv h0
    go_enter Tryz.func57, Tryz.ntmps57
    go_wp2
    go_loopw [7] (fun v wr => ∃ (k : Nat) (s1 : Mst), v = .int .i64 k ∧ k ≤ l.length ∧ Hid (Nd.runL l st = Nd.runL (l.drop k) s1) ∧ Mt wr M s1 ∧ Save M w wr) (fun v _ => l.length - (intOf v).toNat)
    case atStart => exact ⟨0, st, rfl, Nat.zero_le _, rfl, hm, Save.refl _ _⟩
    case round =>
      obtain ⟨k, s1, rfl, hkl, hH, hm1, hS⟩ := hrel
      by_cases hlt : k < l.length
      · obtain ⟨x, hxk⟩ : ∃ x, l[k]? = some x := ⟨_, List.getElem?_eq_getElem hlt⟩
        obtain ⟨vs, -, hc, ha⟩ := hk k x hxk
        have HX : Hid (Nd.runL l st = Nd.runL (l.drop (k + 1)) (x.run s1)) := by
          show _ = _
          rw [hH.out, Nd.runL_at hxk]
        have hq := ih wr K M s1 b (o + k * 5) vs x hM hb (hc.move hb (Keeps.of_save hS hM)) (At.move (Keeps.of_save hS hM) (fun _ h => h) _ _ _ _ ha) hm1
        clear hH hk hc ha hxk hm
        go_wp2_with (go_at_call 93; refine hq.mono ?_; rintro e w2 ⟨rfl, hm2, hs2⟩)
        go_roundw
        case rel => exact ⟨k + 1, _, by go_num, by omega, HX, hm2, hS.trans hs2⟩
        case measure => simp [intOf]; omega
      · have HX : Hid (Nd.runL l st = s1) := by
          show _ = _
          rw [hH.out, List.drop_eq_nil_of_le (by omega), Nd.runL]
        clear hH hk
        go_wp2
        go_end0
        exact ⟨rfl, by rw [HX.out]; exact hm1, hS⟩

set_option maxHeartbeats 1000000 in
theorem eachM6 (n : Nat) (ih : MeterOf 94 n 6) : MeterLOf 59 94 n 6 := by
  intro w K M st v l hM hv hm
  obtain ⟨a1, c1, e1, hx⟩ := hv.form
  unfold maxLen at hx
  by_cases h0 : l = []
  · subst h0
    subst e1
    clear hv
    go_enter Tryz.func59, Tryz.ntmps59
    go_wp2
    go_loopw [7] (fun v wr => v = .int .i64 0 ∧ wr = w) (fun _ _ => 0)
    case atStart => exact ⟨rfl, rfl⟩
    case round =>
      obtain ⟨rfl, rfl⟩ := hrel
      go_wp2
      go_end0
      exact ⟨rfl, hm, Save.refl _ _⟩
  · clear e1
    obtain ⟨b, o, c, rfl, hb, -, -, hk⟩ := hv.resolve_right (fun h => h0 h.1)
    clear hv h0
    go_enter Tryz.func59, Tryz.ntmps59
    go_wp2
    go_loopw [7] (fun v wr => ∃ (k : Nat) (s1 : Mst), v = .int .i64 k ∧ k ≤ l.length ∧ Hid (Nd.runL l st = Nd.runL (l.drop k) s1) ∧ Mt wr M s1 ∧ Save M w wr) (fun v _ => l.length - (intOf v).toNat)
    case atStart => exact ⟨0, st, rfl, Nat.zero_le _, rfl, hm, Save.refl _ _⟩
    case round =>
      obtain ⟨k, s1, rfl, hkl, hH, hm1, hS⟩ := hrel
      by_cases hlt : k < l.length
      · obtain ⟨x, hxk⟩ : ∃ x, l[k]? = some x := ⟨_, List.getElem?_eq_getElem hlt⟩
        obtain ⟨vs, -, hc, ha⟩ := hk k x hxk
        have HX : Hid (Nd.runL l st = Nd.runL (l.drop (k + 1)) (x.run s1)) := by
          show _ = _
          rw [hH.out, Nd.runL_at hxk]
        have hq := ih wr K M s1 b (o + k * 5) vs x hM hb (hc.move hb (Keeps.of_save hS hM)) (At.move (Keeps.of_save hS hM) (fun _ h => h) _ _ _ _ ha) hm1
        clear hH hk hc ha hxk hm
        go_wp2_with (go_at_call 94; refine hq.mono ?_; rintro e w2 ⟨rfl, hm2, hs2⟩)
        go_roundw
        case rel => exact ⟨k + 1, _, by go_num, by omega, HX, hm2, hS.trans hs2⟩
        case measure => simp [intOf]; omega
      · have HX : Hid (Nd.runL l st = s1) := by
          show _ = _
          rw [hH.out, List.drop_eq_nil_of_le (by omega), Nd.runL]
        clear hH hk
        go_wp2
        go_end0
        exact ⟨rfl, by rw [HX.out]; exact hm1, hS⟩

set_option maxHeartbeats 1000000 in
theorem eachM7 (n : Nat) (ih : MeterOf 104 n 7) : MeterLOf 90 104 n 7 := by
  intro w K M st v l hM hv hm
  obtain ⟨a1, c1, e1, hx⟩ := hv.form
  unfold maxLen at hx
  by_cases h0 : l = []
  · subst h0
    subst e1
    clear hv
    go_enter Tryz.func90, Tryz.ntmps90
    go_wp2
    go_loopw [7] (fun v wr => v = .int .i64 0 ∧ wr = w) (fun _ _ => 0)
    case atStart => exact ⟨rfl, rfl⟩
    case round =>
      obtain ⟨rfl, rfl⟩ := hrel
      go_wp2
      go_end0
      exact ⟨rfl, hm, Save.refl _ _⟩
  · clear e1
    obtain ⟨b, o, c, rfl, hb, -, -, hk⟩ := hv.resolve_right (fun h => h0 h.1)
    clear hv h0
    go_enter Tryz.func90, Tryz.ntmps90
    go_wp2
    go_loopw [7] (fun v wr => ∃ (k : Nat) (s1 : Mst), v = .int .i64 k ∧ k ≤ l.length ∧ Hid (Nd.runL l st = Nd.runL (l.drop k) s1) ∧ Mt wr M s1 ∧ Save M w wr) (fun v _ => l.length - (intOf v).toNat)
    case atStart => exact ⟨0, st, rfl, Nat.zero_le _, rfl, hm, Save.refl _ _⟩
    case round =>
      obtain ⟨k, s1, rfl, hkl, hH, hm1, hS⟩ := hrel
      by_cases hlt : k < l.length
      · obtain ⟨x, hxk⟩ : ∃ x, l[k]? = some x := ⟨_, List.getElem?_eq_getElem hlt⟩
        obtain ⟨vs, -, hc, ha⟩ := hk k x hxk
        have HX : Hid (Nd.runL l st = Nd.runL (l.drop (k + 1)) (x.run s1)) := by
          show _ = _
          rw [hH.out, Nd.runL_at hxk]
        have hq := ih wr K M s1 b (o + k * 6) vs x hM hb (hc.move hb (Keeps.of_save hS hM)) (At.move (Keeps.of_save hS hM) (fun _ h => h) _ _ _ _ ha) hm1
        clear hH hk hc ha hxk hm
        go_wp2_with (go_at_call 104; refine hq.mono ?_; rintro e w2 ⟨rfl, hm2, hs2⟩)
        go_roundw
        case rel => exact ⟨k + 1, _, by go_num, by omega, HX, hm2, hS.trans hs2⟩
        case measure => simp [intOf]; omega
      · have HX : Hid (Nd.runL l st = s1) := by
          show _ = _
          rw [hH.out, List.drop_eq_nil_of_le (by omega), Nd.runL]
        clear hH hk
        go_wp2
        go_end0
        exact ⟨rfl, by rw [HX.out]; exact hm1, hS⟩

set_option maxHeartbeats 1000000 in
theorem meter0 (n : Nat) (q0 : MeterLOf 52 79 n 0) : MeterOf 79 (n + 1) 0 := by
  intro w K M st b o vs nd hM hb hc ha hm
  obtain ⟨i0, s1, p2, x2, v0, l0, rfl, rfl, -, -, -, k0⟩ := At.ty ha
  clear ha
  have hmf : ∀ (fn : Fn) (first cap : Array Value) (w : World), (Instr.makeFunc fn first cap).run Tryz.prog w = .ok (.func fn first cap) w := fun _ _ _ _ => rfl
  have hbM : b ≠ M := fun e => hM (e ▸ hb)
  have c0 : ∀ w', Save M w w' → w'.cell? ⟨b, o + 3, none⟩ = some v0 := fun w' h' => (h'.cell hbM).trans (hc 3 _ rfl)
  have r0 : Hid (∀ w' s, Save M w w' → Mt w' M s → _) := fun w' s h' => q0 w' K M s v0 l0 hM (k0.move (Keeps.of_save h' hM) (fun _ h => h))
  clear hc k0 q0
  go_enter Tryz.func79, Tryz.ntmps79
  go_wp2_with (first | (go_at_call 80; refine (leave_any M _ _ hm2).mono ?_; rintro e w3 ⟨rfl, hm3, hs3⟩) | (go_at_call 52; refine (r0.out _ _ hs1 hm1).mono ?_; rintro e w2 ⟨rfl, hm2, ht2⟩; have hs2 := hs1.trans ht2; clear ht2) | (go_at_call 76; refine (enter_any M st _ hm).mono ?_; rintro e w1 ⟨rfl, hm1, hs1⟩; have d0 := c0 _ hs1))
  go_end0
  exact ⟨rfl, hm3, hs2.trans hs3⟩

set_option maxHeartbeats 1000000 in
theorem meter1 (n : Nat) (q1 : MeterLOf 77 78 n 1) : MeterOf 78 (n + 1) 1 := by
  intro w K M st b o vs nd hM hb hc ha hm
  obtain ⟨i0, s1, p2, x2, i3, v0, l0, rfl, rfl, -, -, -, -, k0⟩ := At.pat ha
  clear ha
  have hmf : ∀ (fn : Fn) (first cap : Array Value) (w : World), (Instr.makeFunc fn first cap).run Tryz.prog w = .ok (.func fn first cap) w := fun _ _ _ _ => rfl
  have hbM : b ≠ M := fun e => hM (e ▸ hb)
  have c0 : ∀ w', Save M w w' → w'.cell? ⟨b, o + 4, none⟩ = some v0 := fun w' h' => (h'.cell hbM).trans (hc 4 _ rfl)
  have r0 : Hid (∀ w' s, Save M w w' → Mt w' M s → _) := fun w' s h' => q1 w' K M s v0 l0 hM (k0.move (Keeps.of_save h' hM) (fun _ h => h))
  clear hc k0 q1
  go_enter Tryz.func78, Tryz.ntmps78
  go_wp2_with (first | (go_at_call 80; refine (leave_any M _ _ hm2).mono ?_; rintro e w3 ⟨rfl, hm3, hs3⟩) | (go_at_call 77; refine (r0.out _ _ hs1 hm1).mono ?_; rintro e w2 ⟨rfl, hm2, ht2⟩; have hs2 := hs1.trans ht2; clear ht2) | (go_at_call 76; refine (enter_any M st _ hm).mono ?_; rintro e w1 ⟨rfl, hm1, hs1⟩; have d0 := c0 _ hs1))
  go_end0
  exact ⟨rfl, hm3, hs2.trans hs3⟩

set_option maxHeartbeats 1000000 in
theorem meter2 (n : Nat) (q1 : MeterLOf 77 78 n 1) (q2 : MeterLOf 54 48 n 2) (q3 : MeterLOf 24 61 n 3) (q0 : MeterLOf 52 79 n 0) : MeterOf 48 (n + 1) 2 := by
  intro w K M st b o vs nd hM hb hc ha hm
  obtain ⟨i0, i1, i2, p3, x3, v0, l0, v1, l1, v2, l2, v3, l3, rfl, rfl, -, -, -, -, k0, k1, k2, k3⟩ := At.exp ha
  clear ha
  have hmf : ∀ (fn : Fn) (first cap : Array Value) (w : World), (Instr.makeFunc fn first cap).run Tryz.prog w = .ok (.func fn first cap) w := fun _ _ _ _ => rfl
  have hbM : b ≠ M := fun e => hM (e ▸ hb)
  have c0 : ∀ w', Save M w w' → w'.cell? ⟨b, o + 4, none⟩ = some v0 := fun w' h' => (h'.cell hbM).trans (hc 4 _ rfl)
  have r0 : Hid (∀ w' s, Save M w w' → Mt w' M s → _) := fun w' s h' => q1 w' K M s v0 l0 hM (k0.move (Keeps.of_save h' hM) (fun _ h => h))
  have c1 : ∀ w', Save M w w' → w'.cell? ⟨b, o + 5, none⟩ = some v1 := fun w' h' => (h'.cell hbM).trans (hc 5 _ rfl)
  have r1 : Hid (∀ w' s, Save M w w' → Mt w' M s → _) := fun w' s h' => q2 w' K M s v1 l1 hM (k1.move (Keeps.of_save h' hM) (fun _ h => h))
  have c2 : ∀ w', Save M w w' → w'.cell? ⟨b, o + 6, none⟩ = some v2 := fun w' h' => (h'.cell hbM).trans (hc 6 _ rfl)
  have r2 : Hid (∀ w' s, Save M w w' → Mt w' M s → _) := fun w' s h' => q3 w' K M s v2 l2 hM (k2.move (Keeps.of_save h' hM) (fun _ h => h))
  have c3 : ∀ w', Save M w w' → w'.cell? ⟨b, o + 7, none⟩ = some v3 := fun w' h' => (h'.cell hbM).trans (hc 7 _ rfl)
  have r3 : Hid (∀ w' s, Save M w w' → Mt w' M s → _) := fun w' s h' => q0 w' K M s v3 l3 hM (k3.move (Keeps.of_save h' hM) (fun _ h => h))
  clear hc k0 q1 k1 q2 k2 q3 k3 q0
  go_enter Tryz.func48, Tryz.ntmps48
  go_wp2_with (first | (go_at_call 80; refine (leave_any M _ _ hm5).mono ?_; rintro e w6 ⟨rfl, hm6, hs6⟩) | (go_at_call 52; refine (r3.out _ _ hs4 hm4).mono ?_; rintro e w5 ⟨rfl, hm5, ht5⟩; have hs5 := hs4.trans ht5; clear ht5) | (go_at_call 24; refine (r2.out _ _ hs3 hm3).mono ?_; rintro e w4 ⟨rfl, hm4, ht4⟩; have hs4 := hs3.trans ht4; have d3 := c3 _ hs4; clear ht4) | (go_at_call 54; refine (r1.out _ _ hs2 hm2).mono ?_; rintro e w3 ⟨rfl, hm3, ht3⟩; have hs3 := hs2.trans ht3; have d2 := c2 _ hs3; clear ht3) | (go_at_call 77; refine (r0.out _ _ hs1 hm1).mono ?_; rintro e w2 ⟨rfl, hm2, ht2⟩; have hs2 := hs1.trans ht2; have d1 := c1 _ hs2; clear ht2) | (go_at_call 76; refine (enter_any M st _ hm).mono ?_; rintro e w1 ⟨rfl, hm1, hs1⟩; have d0 := c0 _ hs1))
  go_end0
  exact ⟨rfl, hm6, hs5.trans hs6⟩

set_option maxHeartbeats 1000000 in
theorem meter3 (n : Nat) (q0 : MeterLOf 52 79 n 0) (q2 : MeterLOf 54 48 n 2) (q4 : MeterLOf 55 92 n 4) (q5 : MeterLOf 57 93 n 5) (q6 : MeterLOf 59 94 n 6) : MeterOf 61 (n + 1) 3 := by
  intro w K M st b o vs nd hM hb hc ha hm
  obtain ⟨i0, i1, s2, p3, x3, v0, l0, v1, l1, v2, l2, v3, l3, v4, l4, rfl, rfl, -, -, -, -, k0, k1, k2, k3, k4⟩ := At.dec ha
  clear ha
  have hmf : ∀ (fn : Fn) (first cap : Array Value) (w : World), (Instr.makeFunc fn first cap).run Tryz.prog w = .ok (.func fn first cap) w := fun _ _ _ _ => rfl
  have hbM : b ≠ M := fun e => hM (e ▸ hb)
  have c0 : ∀ w', Save M w w' → w'.cell? ⟨b, o + 4, none⟩ = some v0 := fun w' h' => (h'.cell hbM).trans (hc 4 _ rfl)
  have r0 : Hid (∀ w' s, Save M w w' → Mt w' M s → _) := fun w' s h' => q0 w' K M s v0 l0 hM (k0.move (Keeps.of_save h' hM) (fun _ h => h))
  have c1 : ∀ w', Save M w w' → w'.cell? ⟨b, o + 5, none⟩ = some v1 := fun w' h' => (h'.cell hbM).trans (hc 5 _ rfl)
  have r1 : Hid (∀ w' s, Save M w w' → Mt w' M s → _) := fun w' s h' => q2 w' K M s v1 l1 hM (k1.move (Keeps.of_save h' hM) (fun _ h => h))
  have c2 : ∀ w', Save M w w' → w'.cell? ⟨b, o + 6, none⟩ = some v2 := fun w' h' => (h'.cell hbM).trans (hc 6 _ rfl)
  have r2 : Hid (∀ w' s, Save M w w' → Mt w' M s → _) := fun w' s h' => q4 w' K M s v2 l2 hM (k2.move (Keeps.of_save h' hM) (fun _ h => h))
  have c3 : ∀ w', Save M w w' → w'.cell? ⟨b, o + 7, none⟩ = some v3 := fun w' h' => (h'.cell hbM).trans (hc 7 _ rfl)
  have r3 : Hid (∀ w' s, Save M w w' → Mt w' M s → _) := fun w' s h' => q5 w' K M s v3 l3 hM (k3.move (Keeps.of_save h' hM) (fun _ h => h))
  have c4 : ∀ w', Save M w w' → w'.cell? ⟨b, o + 8, none⟩ = some v4 := fun w' h' => (h'.cell hbM).trans (hc 8 _ rfl)
  have r4 : Hid (∀ w' s, Save M w w' → Mt w' M s → _) := fun w' s h' => q6 w' K M s v4 l4 hM (k4.move (Keeps.of_save h' hM) (fun _ h => h))
  clear hc k0 q0 k1 q2 k2 q4 k3 q5 k4 q6
  go_enter Tryz.func61, Tryz.ntmps61
  go_wp2_with (first | (go_at_call 80; refine (leave_any M _ _ hm6).mono ?_; rintro e w7 ⟨rfl, hm7, hs7⟩) | (go_at_call 59; refine (r4.out _ _ hs5 hm5).mono ?_; rintro e w6 ⟨rfl, hm6, ht6⟩; have hs6 := hs5.trans ht6; clear ht6) | (go_at_call 57; refine (r3.out _ _ hs4 hm4).mono ?_; rintro e w5 ⟨rfl, hm5, ht5⟩; have hs5 := hs4.trans ht5; have d4 := c4 _ hs5; clear ht5) | (go_at_call 55; refine (r2.out _ _ hs3 hm3).mono ?_; rintro e w4 ⟨rfl, hm4, ht4⟩; have hs4 := hs3.trans ht4; have d3 := c3 _ hs4; clear ht4) | (go_at_call 54; refine (r1.out _ _ hs2 hm2).mono ?_; rintro e w3 ⟨rfl, hm3, ht3⟩; have hs3 := hs2.trans ht3; have d2 := c2 _ hs3; clear ht3) | (go_at_call 52; refine (r0.out _ _ hs1 hm1).mono ?_; rintro e w2 ⟨rfl, hm2, ht2⟩; have hs2 := hs1.trans ht2; have d1 := c1 _ hs2; clear ht2) | (go_at_call 76; refine (enter_any M st _ hm).mono ?_; rintro e w1 ⟨rfl, hm1, hs1⟩; have d0 := c0 _ hs1))
  go_end0
  exact ⟨rfl, hm7, hs6.trans hs7⟩

set_option maxHeartbeats 1000000 in
theorem meter4 (n : Nat) (q0 : MeterLOf 52 79 n 0) : MeterOf 92 (n + 1) 4 := by
  intro w K M st b o vs nd hM hb hc ha hm
  obtain ⟨s0, v0, l0, rfl, rfl, -, k0⟩ := At.con ha
  clear ha
  have hmf : ∀ (fn : Fn) (first cap : Array Value) (w : World), (Instr.makeFunc fn first cap).run Tryz.prog w = .ok (.func fn first cap) w := fun _ _ _ _ => rfl
  have hbM : b ≠ M := fun e => hM (e ▸ hb)
  have c0 : ∀ w', Save M w w' → w'.cell? ⟨b, o + 1, none⟩ = some v0 := fun w' h' => (h'.cell hbM).trans (hc 1 _ rfl)
  have r0 : Hid (∀ w' s, Save M w w' → Mt w' M s → _) := fun w' s h' => q0 w' K M s v0 l0 hM (k0.move (Keeps.of_save h' hM) (fun _ h => h))
  clear hc k0 q0
  go_enter Tryz.func92, Tryz.ntmps92
  go_wp2_with (first | (go_at_call 80; refine (leave_any M _ _ hm2).mono ?_; rintro e w3 ⟨rfl, hm3, hs3⟩) | (go_at_call 52; refine (r0.out _ _ hs1 hm1).mono ?_; rintro e w2 ⟨rfl, hm2, ht2⟩; have hs2 := hs1.trans ht2; clear ht2) | (go_at_call 76; refine (enter_any M st _ hm).mono ?_; rintro e w1 ⟨rfl, hm1, hs1⟩; have d0 := c0 _ hs1))
  go_end0
  exact ⟨rfl, hm3, hs2.trans hs3⟩

set_option maxHeartbeats 1000000 in
theorem meter5 (n : Nat) (q3 : MeterLOf 24 61 n 3) (q5 : MeterLOf 57 93 n 5) (q6 : MeterLOf 59 94 n 6) : MeterOf 93 (n + 1) 5 := by
  intro w K M st b o vs nd hM hb hc ha hm
  obtain ⟨i0, p1, x1, v0, l0, v1, l1, v2, l2, rfl, rfl, -, -, k0, k1, k2⟩ := At.mod ha
  clear ha
  have hmf : ∀ (fn : Fn) (first cap : Array Value) (w : World), (Instr.makeFunc fn first cap).run Tryz.prog w = .ok (.func fn first cap) w := fun _ _ _ _ => rfl
  have hbM : b ≠ M := fun e => hM (e ▸ hb)
  have c0 : ∀ w', Save M w w' → w'.cell? ⟨b, o + 2, none⟩ = some v0 := fun w' h' => (h'.cell hbM).trans (hc 2 _ rfl)
  have r0 : Hid (∀ w' s, Save M w w' → Mt w' M s → _) := fun w' s h' => q3 w' K M s v0 l0 hM (k0.move (Keeps.of_save h' hM) (fun _ h => h))
  have c1 : ∀ w', Save M w w' → w'.cell? ⟨b, o + 3, none⟩ = some v1 := fun w' h' => (h'.cell hbM).trans (hc 3 _ rfl)
  have r1 : Hid (∀ w' s, Save M w w' → Mt w' M s → _) := fun w' s h' => q5 w' K M s v1 l1 hM (k1.move (Keeps.of_save h' hM) (fun _ h => h))
  have c2 : ∀ w', Save M w w' → w'.cell? ⟨b, o + 4, none⟩ = some v2 := fun w' h' => (h'.cell hbM).trans (hc 4 _ rfl)
  have r2 : Hid (∀ w' s, Save M w w' → Mt w' M s → _) := fun w' s h' => q6 w' K M s v2 l2 hM (k2.move (Keeps.of_save h' hM) (fun _ h => h))
  clear hc k0 q3 k1 q5 k2 q6
  go_enter Tryz.func93, Tryz.ntmps93
  go_wp2_with (first | (go_at_call 80; refine (leave_any M _ _ hm4).mono ?_; rintro e w5 ⟨rfl, hm5, hs5⟩) | (go_at_call 59; refine (r2.out _ _ hs3 hm3).mono ?_; rintro e w4 ⟨rfl, hm4, ht4⟩; have hs4 := hs3.trans ht4; clear ht4) | (go_at_call 57; refine (r1.out _ _ hs2 hm2).mono ?_; rintro e w3 ⟨rfl, hm3, ht3⟩; have hs3 := hs2.trans ht3; have d2 := c2 _ hs3; clear ht3) | (go_at_call 24; refine (r0.out _ _ hs1 hm1).mono ?_; rintro e w2 ⟨rfl, hm2, ht2⟩; have hs2 := hs1.trans ht2; have d1 := c1 _ hs2; clear ht2) | (go_at_call 76; refine (enter_any M st _ hm).mono ?_; rintro e w1 ⟨rfl, hm1, hs1⟩; have d0 := c0 _ hs1))
  go_end0
  exact ⟨rfl, hm5, hs4.trans hs5⟩

set_option maxHeartbeats 1000000 in
theorem meter6 (n : Nat) (q7 : MeterLOf 90 104 n 7) (q6 : MeterLOf 59 94 n 6) (q0 : MeterLOf 52 79 n 0) : MeterOf 94 (n + 1) 6 := by
  intro w K M st b o vs nd hM hb hc ha hm
  obtain ⟨i0, p1, x1, v0, l0, v1, l1, v2, l2, rfl, rfl, -, -, k0, k1, k2⟩ := At.sig ha
  clear ha
  have hmf : ∀ (fn : Fn) (first cap : Array Value) (w : World), (Instr.makeFunc fn first cap).run Tryz.prog w = .ok (.func fn first cap) w := fun _ _ _ _ => rfl
  have hbM : b ≠ M := fun e => hM (e ▸ hb)
  have c0 : ∀ w', Save M w w' → w'.cell? ⟨b, o + 2, none⟩ = some v0 := fun w' h' => (h'.cell hbM).trans (hc 2 _ rfl)
  have r0 : Hid (∀ w' s, Save M w w' → Mt w' M s → _) := fun w' s h' => q7 w' K M s v0 l0 hM (k0.move (Keeps.of_save h' hM) (fun _ h => h))
  have c1 : ∀ w', Save M w w' → w'.cell? ⟨b, o + 3, none⟩ = some v1 := fun w' h' => (h'.cell hbM).trans (hc 3 _ rfl)
  have r1 : Hid (∀ w' s, Save M w w' → Mt w' M s → _) := fun w' s h' => q6 w' K M s v1 l1 hM (k1.move (Keeps.of_save h' hM) (fun _ h => h))
  have c2 : ∀ w', Save M w w' → w'.cell? ⟨b, o + 4, none⟩ = some v2 := fun w' h' => (h'.cell hbM).trans (hc 4 _ rfl)
  have r2 : Hid (∀ w' s, Save M w w' → Mt w' M s → _) := fun w' s h' => q0 w' K M s v2 l2 hM (k2.move (Keeps.of_save h' hM) (fun _ h => h))
  clear hc k0 q7 k1 q6 k2 q0
  go_enter Tryz.func94, Tryz.ntmps94
  go_wp2_with (first | (go_at_call 80; refine (leave_any M _ _ hm4).mono ?_; rintro e w5 ⟨rfl, hm5, hs5⟩) | (go_at_call 52; refine (r2.out _ _ hs3 hm3).mono ?_; rintro e w4 ⟨rfl, hm4, ht4⟩; have hs4 := hs3.trans ht4; clear ht4) | (go_at_call 59; refine (r1.out _ _ hs2 hm2).mono ?_; rintro e w3 ⟨rfl, hm3, ht3⟩; have hs3 := hs2.trans ht3; have d2 := c2 _ hs3; clear ht3) | (go_at_call 90; refine (r0.out _ _ hs1 hm1).mono ?_; rintro e w2 ⟨rfl, hm2, ht2⟩; have hs2 := hs1.trans ht2; have d1 := c1 _ hs2; clear ht2) | (go_at_call 76; refine (enter_any M st _ hm).mono ?_; rintro e w1 ⟨rfl, hm1, hs1⟩; have d0 := c0 _ hs1))
  go_end0
  exact ⟨rfl, hm5, hs4.trans hs5⟩

set_option maxHeartbeats 1000000 in
theorem meter7 (n : Nat) (q0 : MeterLOf 52 79 n 0) (q4 : MeterLOf 55 92 n 4) (q6 : MeterLOf 59 94 n 6) : MeterOf 104 (n + 1) 7 := by
  intro w K M st b o vs nd hM hb hc ha hm
  obtain ⟨i0, i1, s2, v0, l0, v1, l1, v2, l2, rfl, rfl, -, -, -, k0, k1, k2⟩ := At.spec ha
  clear ha
  have hmf : ∀ (fn : Fn) (first cap : Array Value) (w : World), (Instr.makeFunc fn first cap).run Tryz.prog w = .ok (.func fn first cap) w := fun _ _ _ _ => rfl
  have hbM : b ≠ M := fun e => hM (e ▸ hb)
  have c0 : ∀ w', Save M w w' → w'.cell? ⟨b, o + 3, none⟩ = some v0 := fun w' h' => (h'.cell hbM).trans (hc 3 _ rfl)
  have r0 : Hid (∀ w' s, Save M w w' → Mt w' M s → _) := fun w' s h' => q0 w' K M s v0 l0 hM (k0.move (Keeps.of_save h' hM) (fun _ h => h))
  have c1 : ∀ w', Save M w w' → w'.cell? ⟨b, o + 4, none⟩ = some v1 := fun w' h' => (h'.cell hbM).trans (hc 4 _ rfl)
  have r1 : Hid (∀ w' s, Save M w w' → Mt w' M s → _) := fun w' s h' => q4 w' K M s v1 l1 hM (k1.move (Keeps.of_save h' hM) (fun _ h => h))
  have c2 : ∀ w', Save M w w' → w'.cell? ⟨b, o + 5, none⟩ = some v2 := fun w' h' => (h'.cell hbM).trans (hc 5 _ rfl)
  have r2 : Hid (∀ w' s, Save M w w' → Mt w' M s → _) := fun w' s h' => q6 w' K M s v2 l2 hM (k2.move (Keeps.of_save h' hM) (fun _ h => h))
  clear hc k0 q0 k1 q4 k2 q6
  go_enter Tryz.func104, Tryz.ntmps104
  go_wp2_with (first | (go_at_call 80; refine (leave_any M _ _ hm4).mono ?_; rintro e w5 ⟨rfl, hm5, hs5⟩) | (go_at_call 59; refine (r2.out _ _ hs3 hm3).mono ?_; rintro e w4 ⟨rfl, hm4, ht4⟩; have hs4 := hs3.trans ht4; clear ht4) | (go_at_call 55; refine (r1.out _ _ hs2 hm2).mono ?_; rintro e w3 ⟨rfl, hm3, ht3⟩; have hs3 := hs2.trans ht3; have d2 := c2 _ hs3; clear ht3) | (go_at_call 52; refine (r0.out _ _ hs1 hm1).mono ?_; rintro e w2 ⟨rfl, hm2, ht2⟩; have hs2 := hs1.trans ht2; have d1 := c1 _ hs2; clear ht2) | (go_at_call 76; refine (enter_any M st _ hm).mono ?_; rintro e w1 ⟨rfl, hm1, hs1⟩; have d0 := c0 _ hs1))
  go_end0
  exact ⟨rfl, hm5, hs4.trans hs5⟩

structure MeterAll (n : Nat) : Prop where
  s0 : MeterOf 79 n 0
  s1 : MeterOf 78 n 1
  s2 : MeterOf 48 n 2
  s3 : MeterOf 61 n 3
  s4 : MeterOf 92 n 4
  s5 : MeterOf 93 n 5
  s6 : MeterOf 94 n 6
  s7 : MeterOf 104 n 7
theorem meter_all : ∀ n, MeterAll n
  | 0 => ⟨fun _ _ _ _ _ _ _ _ _ _ _ h _ => h.elim, fun _ _ _ _ _ _ _ _ _ _ _ h _ => h.elim, fun _ _ _ _ _ _ _ _ _ _ _ h _ => h.elim, fun _ _ _ _ _ _ _ _ _ _ _ h _ => h.elim, fun _ _ _ _ _ _ _ _ _ _ _ h _ => h.elim, fun _ _ _ _ _ _ _ _ _ _ _ h _ => h.elim, fun _ _ _ _ _ _ _ _ _ _ _ h _ => h.elim, fun _ _ _ _ _ _ _ _ _ _ _ h _ => h.elim⟩
  | n + 1 =>
    have h := meter_all n
    have q0 := eachM0 n h.s0
    have q1 := eachM1 n h.s1
    have q2 := eachM2 n h.s2
    have q3 := eachM3 n h.s3
    have q4 := eachM4 n h.s4
    have q5 := eachM5 n h.s5
    have q6 := eachM6 n h.s6
    have q7 := eachM7 n h.s7
    ⟨meter0 n q0, meter1 n q1, meter2 n q1 q2 q3 q0, meter3 n q0 q2 q4 q5 q6, meter4 n q0, meter5 n q3 q5 q6, meter6 n q7 q6 q0, meter7 n q0 q4 q6⟩

end Go.Proofs.YtgiegjghldhppabGreat
