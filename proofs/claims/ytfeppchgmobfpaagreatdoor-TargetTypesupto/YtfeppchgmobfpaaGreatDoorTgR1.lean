/- The document's own: deep, kids, binds, ordered, right, RightType. -/
import Derived.Test.YtfeppchgmobfpaaGreatDoorTgS2
import Derived.Test.YtfeppchgmobfpaaGreatDoorTgK
namespace Go.Proofs.YtfeppchgmobfpaaGreatDoor
open Go.RowKit
set_option linter.unusedVariables false
set_option linter.unusedSimpArgs false

/-- An element of a list of types, as it is loaded. -/
theorem TAtL.load {w : World} {K : Nat → Prop} {n : Nat} {a : Option Addr} {c m : Nat} {l : List Tt} (h : TAtL w K n (.slice a m c) l) {i : Nat} {x : Tt} (hx : l[i]? = some x) : ∃ b o k1 k2 k3 k4, a = some ⟨b, o, none⟩ ∧ m ≤ c ∧ w.cell? ⟨b, o + i * 4, none⟩ = some (.int .i64 x.k) ∧ w.cell? ⟨b, o + i * 4 + 1, none⟩ = some (.int .i64 x.n) ∧ w.cell? ⟨b, o + i * 4 + 2, none⟩ = some (.slice k1 x.ls.length k2) ∧ w.cell? ⟨b, o + i * 4 + 3, none⟩ = some (.slice k3 x.ks.length k4) ∧ TAt w K n [.int .i64 x.k, .int .i64 x.n, .slice k1 x.ls.length k2, .slice k3 x.ks.length k4] x := by
  obtain ⟨b, o, ea, hP⟩ := h.elem hx
  obtain ⟨n', rfl⟩ := hP.pos
  obtain ⟨k1, k2, k3, k4, z0, z1, z2, z3, q1, q2, q3, q4⟩ := hP.cells
  refine ⟨b, o, k1, k2, k3, k4, ea, ?_, z0, z1, z2, z3, ⟨_, _, rfl, q1, q2, q3, q4⟩⟩
  rcases h with ⟨_, _, _, hv, _, hl, _⟩ | ⟨h0, -⟩
  · injection hv with e1 e2 e3; subst e2 e3; exact hl
  · rw [h0] at hx; simp at hx
def RDeepOf (n : Nat) : Prop := ∀ (w : World) (a' : Option Addr) (c' : Nat) (a : Option Addr) (c : Nat) (t : Tt) (m : Nat), TAt w Any n [.int .i64 t.k, .int .i64 t.n, .slice a' t.ls.length c', .slice a t.ks.length c] t → m ≤ 100000 →
  Calls Tryz.prog 25 #[.agg #[.int .i64 t.k, .int .i64 t.n, .slice a' t.ls.length c', .slice a t.ks.length c], .int .i64 m] w fun e w' => e = .returned (.bool (decide (m < t.deepest))) ∧ Below w.heap.size w w'

set_option maxHeartbeats 1000000 in
set_option maxRecDepth 100000 in
theorem rdeep_step (n : Nat) (ih : RDeepOf n) : RDeepOf (n + 1) := by
  intro w a' c' a c t m h hm
  obtain ⟨_, _, hv, -, -, -, hL⟩ := h
  injection hv with _ hv; injection hv with _ hv; injection hv with e2 hv; injection hv with e3 _
  subst e2 e3
  have hlm : t.ks.length ≤ 9223372036854775807 := by obtain ⟨_, _, _, hm⟩ := TAtL.form hL; exact hm
  have XA : Hid (Arr (w.alloc (.cells #[.int .i64 t.k, .int .i64 t.n, .slice a' t.ls.length c', .slice a t.ks.length c] TY)) w.heap.size TY [.int .i64 t.k, .int .i64 t.n, .slice a' t.ls.length c', .slice a t.ks.length c]) := ⟨heap_alloc_at _ _⟩
  have B1 : Hid (Below w.heap.size w (w.alloc (.cells #[.int .i64 t.k, .int .i64 t.n, .slice a' t.ls.length c', .slice a t.ks.length c] TY))) := bl_alloc (Below.refl _ _) _
  have HX : Hid (∀ wz, Below (w.alloc (.cells #[.int .i64 t.k, .int .i64 t.n, .slice a' t.ls.length c', .slice a t.ks.length c] TY)).heap.size (w.alloc (.cells #[.int .i64 t.k, .int .i64 t.n, .slice a' t.ls.length c', .slice a t.ks.length c] TY)) wz → ∀ j, wz.cell? ⟨w.heap.size, j, none⟩ = [.int .i64 t.k, .int .i64 t.n, .slice a' t.ls.length c', .slice a t.ks.length c][j]?) := fun wz hz j => (XA.out.stays hz).cell j
  have HL : Hid (∀ wz, Below w.heap.size w wz → TAtL wz Any n (.slice a t.ks.length c) t.ks) := fun wz hz => TAtL.below hL hz
  have HD := Tt.deepest_ks t
  have HIH := hid ih
  clear hL ih
  cases m with
  | zero =>
    have HR : Hid (decide (0 < t.deepest) = true) := by show _ = _; rw [HD]; simp
    clear HD
    generalize decide (0 < t.deepest) = res at HR ⊢
    go_enter Tryz.func25, Tryz.ntmps25
    go_wp2
    go_ret
    exact ⟨ret_bool HR.out.symm, B1.out⟩
  | succ m =>
    have HR : Hid (decide (m + 1 < t.deepest) = decide (m < Tt.deepestL (t.ks.drop 0))) := by show _ = _; rw [HD, List.drop_zero]; simp
    have hw : IntKind.i64.wrap (((m + 1 : Nat) : Int) - 1) = m := by rw [IntKind.wrap_i64]; omega
    have hne : (((m + 1 : Nat) : Int) == 0) = false := by simp; omega
    clear HD
    generalize decide (m + 1 < t.deepest) = res at HR ⊢
    have hmm := hid hm
    clear hm
    generalize hM : ((m + 1 : Nat) : Int) = mi at hw hne ⊢
    have HMI := hid hM
    clear hM
    go_enter Tryz.func25, Tryz.ntmps25
    go_wp2
    go_loopw [5] (fun v wr => ∃ i : Nat, v = .int .i64 i ∧ i ≤ t.ks.length ∧ Hid (res = decide (m < Tt.deepestL (t.ks.drop i))) ∧ Hid (Below (w.alloc (.cells #[.int .i64 t.k, .int .i64 t.n, .slice a' t.ls.length c', .slice a t.ks.length c] TY)).heap.size (w.alloc (.cells #[.int .i64 t.k, .int .i64 t.n, .slice a' t.ls.length c', .slice a t.ks.length c] TY)) wr)) (fun v _ => t.ks.length - (intOf v).toNat)
    case atStart => exact ⟨0, rfl, Nat.zero_le _, HR, hid (Below.refl _ _)⟩
    case round =>
      obtain ⟨i, rfl, hil, hr, hb⟩ := hrel
      have x3 := HX.out _ hb.out
      have BW := hid (bl_tr B1.out hb.out)
      by_cases hlt : i < t.ks.length
      · obtain ⟨x, hx⟩ : ∃ x, t.ks[i]? = some x := ⟨_, List.getElem?_eq_getElem hlt⟩
        obtain ⟨kb, ko, k1, k2, k3, k4, rfl, hcap, z0, z1, z2, z3, hT⟩ := (HL.out wr BW.out).load hx
        have HQ := hid (HIH.out wr k1 k2 k3 k4 x m hT (by have := hmm.out; omega))
        have HD2 := Tt.deepestL_drop hx
        have hlt2 : (i : Int) < t.ks.length := by omega
        by_cases hd : m < x.deepest
        · have HR2 : Hid (res = true) := by show _ = _; rw [hr.out, HD2]; simp; omega
          rw [decide_eq_true hd] at HQ
          clear hr hx hT hd HD2
          go_wp2_with (go_at_call 25; refine (HQ.out).mono ?_; rintro e w3 ⟨rfl, b3⟩; clear HQ)
          go_ret
          exact ⟨ret_bool HR2.out.symm, bl_tr BW.out b3⟩
        · have HR2 : Hid (res = decide (m < Tt.deepestL (t.ks.drop (i + 1)))) := by
            show _ = _
            rw [hr.out, HD2]
            by_cases h9 : m < Tt.deepestL (t.ks.drop (i + 1))
            · rw [decide_eq_true h9, decide_eq_true (by omega)]
            · rw [decide_eq_false h9, decide_eq_false (by omega)]
          rw [decide_eq_false hd] at HQ
          clear hr hx hT hd HD2
          go_wp2_with (go_at_call 25; refine (HQ.out).mono ?_; rintro e w3 ⟨rfl, b3⟩; clear HQ)
          go_roundw
          case rel => exact ⟨i + 1, by go_num, by omega, HR2, hid (bl_tr hb.out b3)⟩
          case measure => simp [intOf]; omega
      · have HR2 : Hid (res = false) := by show _ = _; rw [hr.out, List.drop_eq_nil_of_le (by omega), Tt.deepestL]; simp
        have hi2 : ¬ (i : Int) < t.ks.length := by omega
        clear hr
        go_wp2
        go_ret
        exact ⟨ret_bool HR2.out.symm, BW.out⟩
theorem rdeep_any : ∀ n, RDeepOf n
  | 0 => fun w a' c' a c t m h => h.elim
  | n + 1 => rdeep_step n (rdeep_any n)
/-- How many parts a kind asks for; -1: any number; -2: there is no such kind. -/
def kidsOf (k : Int) : Int := if k = 1 ∨ k = 2 ∨ k = 3 ∨ k = 6 then 0 else if k = 4 ∨ k = 5 then 2 else if k = 7 ∨ k = 8 then -1 else if k = 9 ∨ k = 10 ∨ k = 11 then 1 else -2

set_option maxHeartbeats 1000000 in
set_option maxRecDepth 100000 in
theorem kids_any (w : World) (k : Int) : Calls Tryz.prog 49 #[.int .i64 k] w fun e w' => e = .returned (.int .i64 (kidsOf k)) ∧ w' = w := by
  by_cases h1 : k = 1
  · subst h1
    have HR : Hid (kidsOf 1 = 0) := by show _ = _; rfl
    generalize kidsOf 1 = res at HR ⊢
    go_enter Tryz.func49, Tryz.ntmps49
    go_wp2
    go_ret
    exact ⟨ret_int HR.out.symm, rfl⟩
  by_cases h2 : k = 2
  · subst h2
    have HR : Hid (kidsOf 2 = 0) := by show _ = _; rfl
    generalize kidsOf 2 = res at HR ⊢
    go_enter Tryz.func49, Tryz.ntmps49
    go_wp2
    go_ret
    exact ⟨ret_int HR.out.symm, rfl⟩
  by_cases h3 : k = 3
  · subst h3
    have HR : Hid (kidsOf 3 = 0) := by show _ = _; rfl
    generalize kidsOf 3 = res at HR ⊢
    go_enter Tryz.func49, Tryz.ntmps49
    go_wp2
    go_ret
    exact ⟨ret_int HR.out.symm, rfl⟩
  by_cases h6 : k = 6
  · subst h6
    have HR : Hid (kidsOf 6 = 0) := by show _ = _; rfl
    generalize kidsOf 6 = res at HR ⊢
    go_enter Tryz.func49, Tryz.ntmps49
    go_wp2
    go_ret
    exact ⟨ret_int HR.out.symm, rfl⟩
  by_cases h4 : k = 4
  · subst h4
    have HR : Hid (kidsOf 4 = 2) := by show _ = _; rfl
    generalize kidsOf 4 = res at HR ⊢
    go_enter Tryz.func49, Tryz.ntmps49
    go_wp2
    go_ret
    exact ⟨ret_int HR.out.symm, rfl⟩
  by_cases h5 : k = 5
  · subst h5
    have HR : Hid (kidsOf 5 = 2) := by show _ = _; rfl
    generalize kidsOf 5 = res at HR ⊢
    go_enter Tryz.func49, Tryz.ntmps49
    go_wp2
    go_ret
    exact ⟨ret_int HR.out.symm, rfl⟩
  by_cases h7 : k = 7
  · subst h7
    have HR : Hid (kidsOf 7 = -1) := by show _ = _; rfl
    generalize kidsOf 7 = res at HR ⊢
    go_enter Tryz.func49, Tryz.ntmps49
    go_wp2
    go_ret
    exact ⟨ret_int HR.out.symm, rfl⟩
  by_cases h8 : k = 8
  · subst h8
    have HR : Hid (kidsOf 8 = -1) := by show _ = _; rfl
    generalize kidsOf 8 = res at HR ⊢
    go_enter Tryz.func49, Tryz.ntmps49
    go_wp2
    go_ret
    exact ⟨ret_int HR.out.symm, rfl⟩
  by_cases h9 : k = 9
  · subst h9
    have HR : Hid (kidsOf 9 = 1) := by show _ = _; rfl
    generalize kidsOf 9 = res at HR ⊢
    go_enter Tryz.func49, Tryz.ntmps49
    go_wp2
    go_ret
    exact ⟨ret_int HR.out.symm, rfl⟩
  by_cases h10 : k = 10
  · subst h10
    have HR : Hid (kidsOf 10 = 1) := by show _ = _; rfl
    generalize kidsOf 10 = res at HR ⊢
    go_enter Tryz.func49, Tryz.ntmps49
    go_wp2
    go_ret
    exact ⟨ret_int HR.out.symm, rfl⟩
  by_cases h11 : k = 11
  · subst h11
    have HR : Hid (kidsOf 11 = 1) := by show _ = _; rfl
    generalize kidsOf 11 = res at HR ⊢
    go_enter Tryz.func49, Tryz.ntmps49
    go_wp2
    go_ret
    exact ⟨ret_int HR.out.symm, rfl⟩
  have HR : Hid (kidsOf k = -2) := by show _ = _; unfold kidsOf; simp [h1, h2, h3, h4, h5, h6, h7, h8, h9, h10, h11]
  have g1 : (k == 1) = false := by simp [h1]
  have g2 : (k == 2) = false := by simp [h2]
  have g3 : (k == 3) = false := by simp [h3]
  have g4 : (k == 4) = false := by simp [h4]
  have g5 : (k == 5) = false := by simp [h5]
  have g6 : (k == 6) = false := by simp [h6]
  have g7 : (k == 7) = false := by simp [h7]
  have g8 : (k == 8) = false := by simp [h8]
  have g9 : (k == 9) = false := by simp [h9]
  have g10 : (k == 10) = false := by simp [h10]
  have g11 : (k == 11) = false := by simp [h11]
  generalize kidsOf k = res at HR ⊢
  clear h1 h2 h3 h4 h5 h6 h7 h8 h9 h10 h11
  go_enter Tryz.func49, Tryz.ntmps49
  go_wp2
  go_ret
  exact ⟨ret_int HR.out.symm, rfl⟩
def bindsK (k : Int) : Bool := decide (k = 9) || decide (k = 10) || decide (k = 11)

set_option maxHeartbeats 1000000 in
set_option maxRecDepth 100000 in
theorem rbinds_any (w : World) (k : Int) : Calls Tryz.prog 50 #[.int .i64 k] w fun e w' => e = .returned (.bool (bindsK k)) ∧ w' = w := by
  by_cases h9 : k = 9
  · subst h9
    have HR : Hid (bindsK 9 = true) := by show _ = _; rfl
    generalize bindsK 9 = res at HR ⊢
    go_enter Tryz.func50, Tryz.ntmps50
    go_wp2
    go_ret
    exact ⟨ret_bool HR.out.symm, rfl⟩
  by_cases h10 : k = 10
  · subst h10
    have HR : Hid (bindsK 10 = true) := by show _ = _; rfl
    generalize bindsK 10 = res at HR ⊢
    go_enter Tryz.func50, Tryz.ntmps50
    go_wp2
    go_ret
    exact ⟨ret_bool HR.out.symm, rfl⟩
  have HR : Hid (bindsK k = (k == 11)) := by show _ = _; unfold bindsK; simp [h9, h10]; rfl
  have g9 : (k == 9) = false := by simp [h9]
  have g10 : (k == 10) = false := by simp [h10]
  generalize bindsK k = res at HR ⊢
  clear h9 h10
  go_enter Tryz.func50, Tryz.ntmps50
  go_wp2
  go_ret
  exact ⟨ret_bool HR.out.symm, rfl⟩

set_option maxHeartbeats 1000000 in
set_option maxRecDepth 100000 in
theorem ordered_any (w : World) (v : Value) (l : List ByteArray) (h : Sl w Any v l) : Calls Tryz.prog 51 #[v] w fun e w' => e = .returned (.bool (Tt.rise l)) ∧ Below w.heap.size w w' := by
  obtain ⟨a, c, rfl, hm⟩ := h.form
  unfold maxLen at hm
  have HL : Hid (Sl w Any (.slice a l.length c) l) := h
  have hge := geq_str
  clear h
  go_enter Tryz.func51, Tryz.ntmps51
  go_wp2
  go_loopw [3] (fun v wr => ∃ j : Nat, v = .int .i64 (j + 1) ∧ (j + 1 ≤ l.length ∨ j = 0) ∧ Hid (Tt.rise l = Tt.rise (l.drop j)) ∧ Below w.heap.size w wr) (fun v _ => l.length - (intOf v).toNat)
  case atStart => exact ⟨0, rfl, .inr rfl, rfl, Below.refl _ _⟩
  case round =>
    obtain ⟨j, rfl, hjl, hH, hB⟩ := hrel
    by_cases hlt : j + 1 < l.length
    · obtain ⟨x, hx⟩ : ∃ x, l[j]? = some x := ⟨_, List.getElem?_eq_getElem (by omega)⟩
      obtain ⟨y, hy⟩ : ∃ y, l[j + 1]? = some y := ⟨_, List.getElem?_eq_getElem (by omega)⟩
      obtain ⟨b, o, rfl, cx, cy⟩ : ∃ b o, a = some ⟨b, o, none⟩ ∧ wr.cell? ⟨b, o + j, none⟩ = some (.string x) ∧ wr.cell? ⟨b, o + (j + 1), none⟩ = some (.string y) := by
        rcases HL.out with ⟨b, o, c', hv, -, -, -, hc⟩ | ⟨rfl, -⟩
        · injection hv with e1 e2 e3
          exact ⟨b, o, e1, Keeps.of_below (K := Any) hB b _ _ trivial (hc j x hx), Keeps.of_below (K := Any) hB b _ _ trivial (hc (j + 1) y hy)⟩
        · simp at hx
      have HX : Hid (Tt.rise l = (Tt.less x y && Tt.rise (l.drop (j + 1)))) := hH.out.trans (Tt.rise_at hx hy)
      have hlt2 : (j : Int) + 1 < l.length := by omega
      have hw : IntKind.i64.wrap ((j : Int) + 1 - 1) = j := by rw [IntKind.wrap_i64]; omega
      have HB : Hid (Below w.heap.size w wr) := hB
      clear hH HL hx hy hB hjl
      cases hxy : Tt.less x y with
      | true =>
        rw [hxy, Bool.true_and] at HX
        go_wp2
        go_quiet (fail)
        go_wp2
        go_roundw
        case rel => exact ⟨j + 1, by go_num, .inl (by omega), HX, bl_dN HB.out _⟩
        case measure => simp [intOf]; omega
      | false =>
        rw [hxy, Bool.false_and] at HX
        go_wp2
        go_quiet (fail)
        go_wp2
        go_ret
        exact ⟨ret_bool HX.out.symm, bl_dN HB.out _⟩
    · have HX : Hid (Tt.rise l = true) := hH.out.trans (Tt.rise_short (by rw [List.length_drop]; omega))
      have hlt2 : ¬ (j : Int) + 1 < l.length := by omega
      clear hH HL hjl
      go_wp2
      go_ret
      exact ⟨ret_bool HX.out.symm, hB⟩

def RRightOf (n : Nat) : Prop := ∀ (w : World) (a' : Option Addr) (c' : Nat) (a : Option Addr) (c : Nat) (t : Tt), TAt w Any n [.int .i64 t.k, .int .i64 t.n, .slice a' t.ls.length c', .slice a t.ks.length c] t →
  Calls Tryz.prog 26 #[.agg #[.int .i64 t.k, .int .i64 t.n, .slice a' t.ls.length c', .slice a t.ks.length c]] w fun e w' => e = .returned (.bool t.right) ∧ Below w.heap.size w w'
theorem Tt.own_kids (k n : Int) (l c : Nat) : Tt.own k n l c = (!(decide (kidsOf k = -2)) && (!(decide (0 ≤ kidsOf k) && decide ((c : Int) ≠ kidsOf k)) && (!(decide (n ≠ 0) && (decide (k ≠ 6) && !bindsK k)) && (if k = 7 then decide (l = c) else decide (l = 0))))) := by
  unfold Tt.own Tt.near kidsOf bindsK
  by_cases h1 : k = 1
  · subst h1
    rw [Bool.eq_iff_iff]
    simp <;> omega
  by_cases h2 : k = 2
  · subst h2
    rw [Bool.eq_iff_iff]
    simp <;> omega
  by_cases h3 : k = 3
  · subst h3
    rw [Bool.eq_iff_iff]
    simp <;> omega
  by_cases h4 : k = 4
  · subst h4
    rw [Bool.eq_iff_iff]
    simp <;> omega
  by_cases h5 : k = 5
  · subst h5
    rw [Bool.eq_iff_iff]
    simp <;> omega
  by_cases h6 : k = 6
  · subst h6
    rw [Bool.eq_iff_iff]
    simp <;> omega
  by_cases h7 : k = 7
  · subst h7
    rw [Bool.eq_iff_iff]
    simp <;> omega
  by_cases h8 : k = 8
  · subst h8
    rw [Bool.eq_iff_iff]
    simp <;> omega
  by_cases h9 : k = 9
  · subst h9
    rw [Bool.eq_iff_iff]
    simp <;> omega
  by_cases h10 : k = 10
  · subst h10
    rw [Bool.eq_iff_iff]
    simp <;> omega
  by_cases h11 : k = 11
  · subst h11
    rw [Bool.eq_iff_iff]
    simp <;> omega
  simp [h1, h2, h3, h4, h5, h6, h7, h8, h9, h10, h11]

set_option maxHeartbeats 20000000 in
set_option maxRecDepth 100000 in
theorem rright_step (n : Nat) (ih : RRightOf n) : RRightOf (n + 1) := by
  intro w a' c' a c t h
  obtain ⟨_, _, hv, -, hn64, hS, hL⟩ := h
  injection hv with _ hv; injection hv with _ hv; injection hv with e2 hv; injection hv with e3 _
  subst e2 e3
  have hlm : t.ks.length ≤ 9223372036854775807 := by obtain ⟨_, _, _, hm⟩ := TAtL.form hL; exact hm
  have hll : t.ls.length ≤ 9223372036854775807 := by obtain ⟨_, _, _, hm⟩ := hS.form; exact hm
  have XA : Hid (Arr (w.alloc (.cells #[.int .i64 t.k, .int .i64 t.n, .slice a' t.ls.length c', .slice a t.ks.length c] TY)) w.heap.size TY [.int .i64 t.k, .int .i64 t.n, .slice a' t.ls.length c', .slice a t.ks.length c]) := ⟨heap_alloc_at _ _⟩
  have B1 : Hid (Below w.heap.size w (w.alloc (.cells #[.int .i64 t.k, .int .i64 t.n, .slice a' t.ls.length c', .slice a t.ks.length c] TY))) := bl_alloc (Below.refl _ _) _
  have HX : Hid (∀ wz, Below (w.alloc (.cells #[.int .i64 t.k, .int .i64 t.n, .slice a' t.ls.length c', .slice a t.ks.length c] TY)).heap.size (w.alloc (.cells #[.int .i64 t.k, .int .i64 t.n, .slice a' t.ls.length c', .slice a t.ks.length c] TY)) wz → ∀ j, wz.cell? ⟨w.heap.size, j, none⟩ = [.int .i64 t.k, .int .i64 t.n, .slice a' t.ls.length c', .slice a t.ks.length c][j]?) := fun wz hz j => (XA.out.stays hz).cell j
  have HL : Hid (∀ wz, Below w.heap.size w wz → TAtL wz Any n (.slice a t.ks.length c) t.ks) := fun wz hz => TAtL.below hL hz
  have OQ : Hid (Calls Tryz.prog 51 #[.slice a' t.ls.length c'] (w.alloc (.cells #[.int .i64 t.k, .int .i64 t.n, .slice a' t.ls.length c', .slice a t.ks.length c] TY)) fun e w' => e = .returned (.bool (Tt.rise t.ls)) ∧ Below (w.alloc (.cells #[.int .i64 t.k, .int .i64 t.n, .slice a' t.ls.length c', .slice a t.ks.length c] TY)).heap.size (w.alloc (.cells #[.int .i64 t.k, .int .i64 t.n, .slice a' t.ls.length c', .slice a t.ks.length c] TY)) w') := ordered_any _ _ t.ls (Sl.below hS B1.out)
  have KQ : Hid (Calls Tryz.prog 49 #[.int .i64 t.k] (w.alloc (.cells #[.int .i64 t.k, .int .i64 t.n, .slice a' t.ls.length c', .slice a t.ks.length c] TY)) fun e w' => e = .returned (.int .i64 (kidsOf t.k)) ∧ w' = (w.alloc (.cells #[.int .i64 t.k, .int .i64 t.n, .slice a' t.ls.length c', .slice a t.ks.length c] TY))) := kids_any _ _
  have BQ : Hid (Calls Tryz.prog 50 #[.int .i64 t.k] (w.alloc (.cells #[.int .i64 t.k, .int .i64 t.n, .slice a' t.ls.length c', .slice a t.ks.length c] TY)) fun e w' => e = .returned (.bool (bindsK t.k)) ∧ w' = (w.alloc (.cells #[.int .i64 t.k, .int .i64 t.n, .slice a' t.ls.length c', .slice a t.ks.length c] TY))) := rbinds_any _ _
  have HIH := hid ih
  have HR := Tt.right_mk t
  rw [Tt.own_kids] at HR
  have x0 := XA.out.cell
  clear hL ih hS hn64
  generalize t.right = res at HR ⊢
  generalize kidsOf t.k = kd at HR KQ
  generalize bindsK t.k = bk at HR BQ
  -- FALSE: a walk that ends there
  by_cases hk2 : kd = -2
  · subst hk2
    have HF : Hid (res = false) := by show _ = _; rw [HR]; simp
    clear HR
    try clear hk2
    try clear hkl
    try clear hn0
    try clear h6
    try clear h7
    try clear hll2
    try clear hri
    try clear hnil
    try clear hl0
    go_enter Tryz.func26, Tryz.ntmps26
    go_wp2_with (first | (go_at_call 49; refine (KQ.out).mono ?_; rintro e w3 ⟨rfl, hw⟩; rw [hw]; clear hw w3 KQ) | (go_at_call 50; refine (BQ.out).mono ?_; rintro e w3 ⟨rfl, hw⟩; rw [hw]; clear hw w3 BQ) | (go_at_call 51; refine (OQ.out).mono ?_; rintro e w4 ⟨rfl, b4⟩; have x4 := HX.out _ b4; clear OQ))
    go_ret
    exact ⟨ret_bool HF.out.symm, B1.out⟩
  · have gk2 : (kd == -2) = false := by simp [hk2]
    by_cases hk0 : 0 ≤ kd
    · have gk0 : kd ≥ 0 := hk0
      by_cases hkl : (t.ks.length : Int) = kd
      · have gkl : ((t.ks.length : Int) != kd) = false := by simp [hkl]
        by_cases hn0 : t.n = 0
        · have gn : (t.n != 0) = false := by simp [hn0]
          by_cases h7 : t.k = 7
          · have g7 : (t.k == 7) = true := by simp [h7]
            by_cases hll2 : t.ls.length = t.ks.length
            · have gl : ((t.ls.length : Int) != (t.ks.length : Int)) = false := by simp [hll2]
              cases hri : Tt.rise t.ls with
              | true =>
                rw [hri] at OQ HR
                have HRL : Hid (res = Tt.rightL (t.ks.drop 0)) := by show _ = _; rw [HR, List.drop_zero]; simp [hk2, hk0, hkl, hn0, h7, hll2]
                clear HR
                try clear hk2
                try clear hkl
                try clear hn0
                try clear h6
                try clear h7
                try clear hll2
                try clear hri
                try clear hnil
                try clear hl0
                go_enter Tryz.func26, Tryz.ntmps26
                go_wp2_with (first | (go_at_call 49; refine (KQ.out).mono ?_; rintro e w3 ⟨rfl, hw⟩; rw [hw]; clear hw w3 KQ) | (go_at_call 50; refine (BQ.out).mono ?_; rintro e w3 ⟨rfl, hw⟩; rw [hw]; clear hw w3 BQ) | (go_at_call 51; refine (OQ.out).mono ?_; rintro e w4 ⟨rfl, b4⟩; have x4 := HX.out _ b4; clear OQ))
                have BS : Hid (Below (w.alloc (.cells #[.int .i64 t.k, .int .i64 t.n, .slice a' t.ls.length c', .slice a t.ks.length c] TY)).heap.size (w.alloc (.cells #[.int .i64 t.k, .int .i64 t.n, .slice a' t.ls.length c', .slice a t.ks.length c] TY)) w4) := hid b4
                go_loopw [4] (fun v wr => ∃ i : Nat, v = .int .i64 i ∧ i ≤ t.ks.length ∧ Hid (res = Tt.rightL (t.ks.drop i)) ∧ Hid (Below (w.alloc (.cells #[.int .i64 t.k, .int .i64 t.n, .slice a' t.ls.length c', .slice a t.ks.length c] TY)).heap.size (w.alloc (.cells #[.int .i64 t.k, .int .i64 t.n, .slice a' t.ls.length c', .slice a t.ks.length c] TY)) wr)) (fun v _ => t.ks.length - (intOf v).toNat)
                case atStart => exact ⟨0, rfl, Nat.zero_le _, HRL, BS⟩
                case round =>
                  obtain ⟨i, rfl, hil, hr, hb⟩ := hrel
                  have x3 := HX.out _ hb.out
                  have BW := hid (bl_tr B1.out hb.out)
                  by_cases hlt : i < t.ks.length
                  · obtain ⟨x, hx⟩ : ∃ x, t.ks[i]? = some x := ⟨_, List.getElem?_eq_getElem hlt⟩
                    obtain ⟨kb, ko, k1, k2, k3, k4, rfl, hcap, z0, z1, z2, z3, hT⟩ := (HL.out wr BW.out).load hx
                    have HQ := hid (HIH.out wr k1 k2 k3 k4 x hT)
                    have HD2 := Tt.rightL_drop hx
                    have hlt2 : (i : Int) < t.ks.length := by omega
                    cases hd : x.right with
                    | false =>
                      have HR2 : Hid (res = false) := by show _ = _; rw [hr.out, HD2, hd]; rfl
                      rw [hd] at HQ
                      clear hr hx hT hd HD2
                      go_wp2_with (go_at_call 26; refine (HQ.out).mono ?_; rintro e w3 ⟨rfl, b3⟩; clear HQ)
                      go_ret
                      exact ⟨ret_bool HR2.out.symm, bl_tr BW.out b3⟩
                    | true =>
                      have HR2 : Hid (res = Tt.rightL (t.ks.drop (i + 1))) := by show _ = _; rw [hr.out, HD2, hd]; rfl
                      rw [hd] at HQ
                      clear hr hx hT hd HD2
                      go_wp2_with (go_at_call 26; refine (HQ.out).mono ?_; rintro e w3 ⟨rfl, b3⟩; clear HQ)
                      go_roundw
                      case rel => exact ⟨i + 1, by go_num, by omega, HR2, hid (bl_tr hb.out b3)⟩
                      case measure => simp [intOf]; omega
                  · have HR2 : Hid (res = true) := by show _ = _; rw [hr.out, List.drop_eq_nil_of_le (by omega), Tt.rightL]
                    have hi2 : ¬ (i : Int) < t.ks.length := by omega
                    clear hr
                    go_wp2
                    go_ret
                    exact ⟨ret_bool HR2.out.symm, BW.out⟩
              | false =>
                rw [hri] at OQ HR
                have HF : Hid (res = false) := by show _ = _; rw [HR]; simp
                clear HR
                try clear hk2
                try clear hkl
                try clear hn0
                try clear h6
                try clear h7
                try clear hll2
                try clear hri
                try clear hnil
                try clear hl0
                go_enter Tryz.func26, Tryz.ntmps26
                go_wp2_with (first | (go_at_call 49; refine (KQ.out).mono ?_; rintro e w3 ⟨rfl, hw⟩; rw [hw]; clear hw w3 KQ) | (go_at_call 50; refine (BQ.out).mono ?_; rintro e w3 ⟨rfl, hw⟩; rw [hw]; clear hw w3 BQ) | (go_at_call 51; refine (OQ.out).mono ?_; rintro e w4 ⟨rfl, b4⟩; have x4 := HX.out _ b4; clear OQ))
                go_ret
                exact ⟨ret_bool HF.out.symm, bl_tr B1.out b4⟩
            · have gl : ((t.ls.length : Int) != (t.ks.length : Int)) = true := by simp; omega
              have HF : Hid (res = false) := by show _ = _; rw [HR]; simp [h7, hll2]
              clear HR
              try clear hk2
              try clear hkl
              try clear hn0
              try clear h6
              try clear h7
              try clear hll2
              try clear hri
              try clear hnil
              try clear hl0
              go_enter Tryz.func26, Tryz.ntmps26
              go_wp2_with (first | (go_at_call 49; refine (KQ.out).mono ?_; rintro e w3 ⟨rfl, hw⟩; rw [hw]; clear hw w3 KQ) | (go_at_call 50; refine (BQ.out).mono ?_; rintro e w3 ⟨rfl, hw⟩; rw [hw]; clear hw w3 BQ) | (go_at_call 51; refine (OQ.out).mono ?_; rintro e w4 ⟨rfl, b4⟩; have x4 := HX.out _ b4; clear OQ))
              go_ret
              exact ⟨ret_bool HF.out.symm, B1.out⟩
          · have g7 : (t.k == 7) = false := by simp [h7]
            by_cases hl0 : t.ls.length = 0
            · have gl : ¬ (t.ls.length : Int) > 0 := by omega
              have hnil : t.ls = [] := List.eq_nil_of_length_eq_zero hl0
              have hri : Tt.rise t.ls = true := by rw [hnil]; rfl
              have HRL : Hid (res = Tt.rightL (t.ks.drop 0)) := by show _ = _; rw [HR, List.drop_zero]; simp [hk2, hk0, hkl, hn0, h7, hl0, hri]
              clear HR
              try clear hk2
              try clear hkl
              try clear hn0
              try clear h6
              try clear h7
              try clear hll2
              try clear hri
              rw [hl0] at XA B1 HX OQ KQ BQ x0 ⊢
              go_enter Tryz.func26, Tryz.ntmps26
              go_wp2_with (first | (go_at_call 49; refine (KQ.out).mono ?_; rintro e w3 ⟨rfl, hw⟩; rw [hw]; clear hw w3 KQ) | (go_at_call 50; refine (BQ.out).mono ?_; rintro e w3 ⟨rfl, hw⟩; rw [hw]; clear hw w3 BQ) | (go_at_call 51; refine (OQ.out).mono ?_; rintro e w4 ⟨rfl, b4⟩; have x4 := HX.out _ b4; clear OQ))
              have BS : Hid (Below (w.alloc (.cells #[.int .i64 t.k, .int .i64 t.n, .slice a' 0 c', .slice a t.ks.length c] TY)).heap.size (w.alloc (.cells #[.int .i64 t.k, .int .i64 t.n, .slice a' 0 c', .slice a t.ks.length c] TY)) (w.alloc (.cells #[.int .i64 t.k, .int .i64 t.n, .slice a' 0 c', .slice a t.ks.length c] TY))) := hid (Below.refl _ _)
              go_loopw [4] (fun v wr => ∃ i : Nat, v = .int .i64 i ∧ i ≤ t.ks.length ∧ Hid (res = Tt.rightL (t.ks.drop i)) ∧ Hid (Below (w.alloc (.cells #[.int .i64 t.k, .int .i64 t.n, .slice a' 0 c', .slice a t.ks.length c] TY)).heap.size (w.alloc (.cells #[.int .i64 t.k, .int .i64 t.n, .slice a' 0 c', .slice a t.ks.length c] TY)) wr)) (fun v _ => t.ks.length - (intOf v).toNat)
              case atStart => exact ⟨0, rfl, Nat.zero_le _, HRL, BS⟩
              case round =>
                obtain ⟨i, rfl, hil, hr, hb⟩ := hrel
                have x3 := HX.out _ hb.out
                have BW := hid (bl_tr B1.out hb.out)
                by_cases hlt : i < t.ks.length
                · obtain ⟨x, hx⟩ : ∃ x, t.ks[i]? = some x := ⟨_, List.getElem?_eq_getElem hlt⟩
                  obtain ⟨kb, ko, k1, k2, k3, k4, rfl, hcap, z0, z1, z2, z3, hT⟩ := (HL.out wr BW.out).load hx
                  have HQ := hid (HIH.out wr k1 k2 k3 k4 x hT)
                  have HD2 := Tt.rightL_drop hx
                  have hlt2 : (i : Int) < t.ks.length := by omega
                  cases hd : x.right with
                  | false =>
                    have HR2 : Hid (res = false) := by show _ = _; rw [hr.out, HD2, hd]; rfl
                    rw [hd] at HQ
                    clear hr hx hT hd HD2
                    go_wp2_with (go_at_call 26; refine (HQ.out).mono ?_; rintro e w3 ⟨rfl, b3⟩; clear HQ)
                    go_ret
                    exact ⟨ret_bool HR2.out.symm, bl_tr BW.out b3⟩
                  | true =>
                    have HR2 : Hid (res = Tt.rightL (t.ks.drop (i + 1))) := by show _ = _; rw [hr.out, HD2, hd]; rfl
                    rw [hd] at HQ
                    clear hr hx hT hd HD2
                    go_wp2_with (go_at_call 26; refine (HQ.out).mono ?_; rintro e w3 ⟨rfl, b3⟩; clear HQ)
                    go_roundw
                    case rel => exact ⟨i + 1, by go_num, by omega, HR2, hid (bl_tr hb.out b3)⟩
                    case measure => simp [intOf]; omega
                · have HR2 : Hid (res = true) := by show _ = _; rw [hr.out, List.drop_eq_nil_of_le (by omega), Tt.rightL]
                  have hi2 : ¬ (i : Int) < t.ks.length := by omega
                  clear hr
                  go_wp2
                  go_ret
                  exact ⟨ret_bool HR2.out.symm, BW.out⟩
            · have gl : (t.ls.length : Int) > 0 := by omega
              have HF : Hid (res = false) := by show _ = _; rw [HR]; simp [h7, hl0]
              clear HR
              try clear hk2
              try clear hkl
              try clear hn0
              try clear h6
              try clear h7
              try clear hll2
              try clear hri
              try clear hnil
              try clear hl0
              go_enter Tryz.func26, Tryz.ntmps26
              go_wp2_with (first | (go_at_call 49; refine (KQ.out).mono ?_; rintro e w3 ⟨rfl, hw⟩; rw [hw]; clear hw w3 KQ) | (go_at_call 50; refine (BQ.out).mono ?_; rintro e w3 ⟨rfl, hw⟩; rw [hw]; clear hw w3 BQ) | (go_at_call 51; refine (OQ.out).mono ?_; rintro e w4 ⟨rfl, b4⟩; have x4 := HX.out _ b4; clear OQ))
              go_ret
              exact ⟨ret_bool HF.out.symm, B1.out⟩
        · have gn : (t.n != 0) = true := by simp [hn0]
          by_cases h6 : t.k = 6
          · have g6 : (t.k != 6) = false := by simp [h6]
            by_cases h7 : t.k = 7
            · exact absurd (h6.symm.trans h7) (by decide)
            · have g7 : (t.k == 7) = false := by simp [h7]
              by_cases hl0 : t.ls.length = 0
              · have gl : ¬ (t.ls.length : Int) > 0 := by omega
                have hnil : t.ls = [] := List.eq_nil_of_length_eq_zero hl0
                have hri : Tt.rise t.ls = true := by rw [hnil]; rfl
                have HRL : Hid (res = Tt.rightL (t.ks.drop 0)) := by show _ = _; rw [HR, List.drop_zero]; simp [hk2, hk0, hkl, hn0, h6, h7, hl0, hri]
                clear HR
                try clear hk2
                try clear hkl
                try clear hn0
                try clear h6
                try clear h7
                try clear hll2
                try clear hri
                rw [hl0] at XA B1 HX OQ KQ BQ x0 ⊢
                go_enter Tryz.func26, Tryz.ntmps26
                go_wp2_with (first | (go_at_call 49; refine (KQ.out).mono ?_; rintro e w3 ⟨rfl, hw⟩; rw [hw]; clear hw w3 KQ) | (go_at_call 50; refine (BQ.out).mono ?_; rintro e w3 ⟨rfl, hw⟩; rw [hw]; clear hw w3 BQ) | (go_at_call 51; refine (OQ.out).mono ?_; rintro e w4 ⟨rfl, b4⟩; have x4 := HX.out _ b4; clear OQ))
                have BS : Hid (Below (w.alloc (.cells #[.int .i64 t.k, .int .i64 t.n, .slice a' 0 c', .slice a t.ks.length c] TY)).heap.size (w.alloc (.cells #[.int .i64 t.k, .int .i64 t.n, .slice a' 0 c', .slice a t.ks.length c] TY)) (w.alloc (.cells #[.int .i64 t.k, .int .i64 t.n, .slice a' 0 c', .slice a t.ks.length c] TY))) := hid (Below.refl _ _)
                go_loopw [4] (fun v wr => ∃ i : Nat, v = .int .i64 i ∧ i ≤ t.ks.length ∧ Hid (res = Tt.rightL (t.ks.drop i)) ∧ Hid (Below (w.alloc (.cells #[.int .i64 t.k, .int .i64 t.n, .slice a' 0 c', .slice a t.ks.length c] TY)).heap.size (w.alloc (.cells #[.int .i64 t.k, .int .i64 t.n, .slice a' 0 c', .slice a t.ks.length c] TY)) wr)) (fun v _ => t.ks.length - (intOf v).toNat)
                case atStart => exact ⟨0, rfl, Nat.zero_le _, HRL, BS⟩
                case round =>
                  obtain ⟨i, rfl, hil, hr, hb⟩ := hrel
                  have x3 := HX.out _ hb.out
                  have BW := hid (bl_tr B1.out hb.out)
                  by_cases hlt : i < t.ks.length
                  · obtain ⟨x, hx⟩ : ∃ x, t.ks[i]? = some x := ⟨_, List.getElem?_eq_getElem hlt⟩
                    obtain ⟨kb, ko, k1, k2, k3, k4, rfl, hcap, z0, z1, z2, z3, hT⟩ := (HL.out wr BW.out).load hx
                    have HQ := hid (HIH.out wr k1 k2 k3 k4 x hT)
                    have HD2 := Tt.rightL_drop hx
                    have hlt2 : (i : Int) < t.ks.length := by omega
                    cases hd : x.right with
                    | false =>
                      have HR2 : Hid (res = false) := by show _ = _; rw [hr.out, HD2, hd]; rfl
                      rw [hd] at HQ
                      clear hr hx hT hd HD2
                      go_wp2_with (go_at_call 26; refine (HQ.out).mono ?_; rintro e w3 ⟨rfl, b3⟩; clear HQ)
                      go_ret
                      exact ⟨ret_bool HR2.out.symm, bl_tr BW.out b3⟩
                    | true =>
                      have HR2 : Hid (res = Tt.rightL (t.ks.drop (i + 1))) := by show _ = _; rw [hr.out, HD2, hd]; rfl
                      rw [hd] at HQ
                      clear hr hx hT hd HD2
                      go_wp2_with (go_at_call 26; refine (HQ.out).mono ?_; rintro e w3 ⟨rfl, b3⟩; clear HQ)
                      go_roundw
                      case rel => exact ⟨i + 1, by go_num, by omega, HR2, hid (bl_tr hb.out b3)⟩
                      case measure => simp [intOf]; omega
                  · have HR2 : Hid (res = true) := by show _ = _; rw [hr.out, List.drop_eq_nil_of_le (by omega), Tt.rightL]
                    have hi2 : ¬ (i : Int) < t.ks.length := by omega
                    clear hr
                    go_wp2
                    go_ret
                    exact ⟨ret_bool HR2.out.symm, BW.out⟩
              · have gl : (t.ls.length : Int) > 0 := by omega
                have HF : Hid (res = false) := by show _ = _; rw [HR]; simp [h7, hl0]
                clear HR
                try clear hk2
                try clear hkl
                try clear hn0
                try clear h6
                try clear h7
                try clear hll2
                try clear hri
                try clear hnil
                try clear hl0
                go_enter Tryz.func26, Tryz.ntmps26
                go_wp2_with (first | (go_at_call 49; refine (KQ.out).mono ?_; rintro e w3 ⟨rfl, hw⟩; rw [hw]; clear hw w3 KQ) | (go_at_call 50; refine (BQ.out).mono ?_; rintro e w3 ⟨rfl, hw⟩; rw [hw]; clear hw w3 BQ) | (go_at_call 51; refine (OQ.out).mono ?_; rintro e w4 ⟨rfl, b4⟩; have x4 := HX.out _ b4; clear OQ))
                go_ret
                exact ⟨ret_bool HF.out.symm, B1.out⟩
          · have g6 : (t.k != 6) = true := by simp [h6]
            cases bk with
            | true =>
              by_cases h7 : t.k = 7
              · have g7 : (t.k == 7) = true := by simp [h7]
                by_cases hll2 : t.ls.length = t.ks.length
                · have gl : ((t.ls.length : Int) != (t.ks.length : Int)) = false := by simp [hll2]
                  cases hri : Tt.rise t.ls with
                  | true =>
                    rw [hri] at OQ HR
                    have HRL : Hid (res = Tt.rightL (t.ks.drop 0)) := by show _ = _; rw [HR, List.drop_zero]; simp [hk2, hk0, hkl, hn0, h6, h7, hll2]
                    clear HR
                    try clear hk2
                    try clear hkl
                    try clear hn0
                    try clear h6
                    try clear h7
                    try clear hll2
                    try clear hri
                    try clear hnil
                    try clear hl0
                    go_enter Tryz.func26, Tryz.ntmps26
                    go_wp2_with (first | (go_at_call 49; refine (KQ.out).mono ?_; rintro e w3 ⟨rfl, hw⟩; rw [hw]; clear hw w3 KQ) | (go_at_call 50; refine (BQ.out).mono ?_; rintro e w3 ⟨rfl, hw⟩; rw [hw]; clear hw w3 BQ) | (go_at_call 51; refine (OQ.out).mono ?_; rintro e w4 ⟨rfl, b4⟩; have x4 := HX.out _ b4; clear OQ))
                    have BS : Hid (Below (w.alloc (.cells #[.int .i64 t.k, .int .i64 t.n, .slice a' t.ls.length c', .slice a t.ks.length c] TY)).heap.size (w.alloc (.cells #[.int .i64 t.k, .int .i64 t.n, .slice a' t.ls.length c', .slice a t.ks.length c] TY)) w4) := hid b4
                    go_loopw [4] (fun v wr => ∃ i : Nat, v = .int .i64 i ∧ i ≤ t.ks.length ∧ Hid (res = Tt.rightL (t.ks.drop i)) ∧ Hid (Below (w.alloc (.cells #[.int .i64 t.k, .int .i64 t.n, .slice a' t.ls.length c', .slice a t.ks.length c] TY)).heap.size (w.alloc (.cells #[.int .i64 t.k, .int .i64 t.n, .slice a' t.ls.length c', .slice a t.ks.length c] TY)) wr)) (fun v _ => t.ks.length - (intOf v).toNat)
                    case atStart => exact ⟨0, rfl, Nat.zero_le _, HRL, BS⟩
                    case round =>
                      obtain ⟨i, rfl, hil, hr, hb⟩ := hrel
                      have x3 := HX.out _ hb.out
                      have BW := hid (bl_tr B1.out hb.out)
                      by_cases hlt : i < t.ks.length
                      · obtain ⟨x, hx⟩ : ∃ x, t.ks[i]? = some x := ⟨_, List.getElem?_eq_getElem hlt⟩
                        obtain ⟨kb, ko, k1, k2, k3, k4, rfl, hcap, z0, z1, z2, z3, hT⟩ := (HL.out wr BW.out).load hx
                        have HQ := hid (HIH.out wr k1 k2 k3 k4 x hT)
                        have HD2 := Tt.rightL_drop hx
                        have hlt2 : (i : Int) < t.ks.length := by omega
                        cases hd : x.right with
                        | false =>
                          have HR2 : Hid (res = false) := by show _ = _; rw [hr.out, HD2, hd]; rfl
                          rw [hd] at HQ
                          clear hr hx hT hd HD2
                          go_wp2_with (go_at_call 26; refine (HQ.out).mono ?_; rintro e w3 ⟨rfl, b3⟩; clear HQ)
                          go_ret
                          exact ⟨ret_bool HR2.out.symm, bl_tr BW.out b3⟩
                        | true =>
                          have HR2 : Hid (res = Tt.rightL (t.ks.drop (i + 1))) := by show _ = _; rw [hr.out, HD2, hd]; rfl
                          rw [hd] at HQ
                          clear hr hx hT hd HD2
                          go_wp2_with (go_at_call 26; refine (HQ.out).mono ?_; rintro e w3 ⟨rfl, b3⟩; clear HQ)
                          go_roundw
                          case rel => exact ⟨i + 1, by go_num, by omega, HR2, hid (bl_tr hb.out b3)⟩
                          case measure => simp [intOf]; omega
                      · have HR2 : Hid (res = true) := by show _ = _; rw [hr.out, List.drop_eq_nil_of_le (by omega), Tt.rightL]
                        have hi2 : ¬ (i : Int) < t.ks.length := by omega
                        clear hr
                        go_wp2
                        go_ret
                        exact ⟨ret_bool HR2.out.symm, BW.out⟩
                  | false =>
                    rw [hri] at OQ HR
                    have HF : Hid (res = false) := by show _ = _; rw [HR]; simp
                    clear HR
                    try clear hk2
                    try clear hkl
                    try clear hn0
                    try clear h6
                    try clear h7
                    try clear hll2
                    try clear hri
                    try clear hnil
                    try clear hl0
                    go_enter Tryz.func26, Tryz.ntmps26
                    go_wp2_with (first | (go_at_call 49; refine (KQ.out).mono ?_; rintro e w3 ⟨rfl, hw⟩; rw [hw]; clear hw w3 KQ) | (go_at_call 50; refine (BQ.out).mono ?_; rintro e w3 ⟨rfl, hw⟩; rw [hw]; clear hw w3 BQ) | (go_at_call 51; refine (OQ.out).mono ?_; rintro e w4 ⟨rfl, b4⟩; have x4 := HX.out _ b4; clear OQ))
                    go_ret
                    exact ⟨ret_bool HF.out.symm, bl_tr B1.out b4⟩
                · have gl : ((t.ls.length : Int) != (t.ks.length : Int)) = true := by simp; omega
                  have HF : Hid (res = false) := by show _ = _; rw [HR]; simp [h7, hll2]
                  clear HR
                  try clear hk2
                  try clear hkl
                  try clear hn0
                  try clear h6
                  try clear h7
                  try clear hll2
                  try clear hri
                  try clear hnil
                  try clear hl0
                  go_enter Tryz.func26, Tryz.ntmps26
                  go_wp2_with (first | (go_at_call 49; refine (KQ.out).mono ?_; rintro e w3 ⟨rfl, hw⟩; rw [hw]; clear hw w3 KQ) | (go_at_call 50; refine (BQ.out).mono ?_; rintro e w3 ⟨rfl, hw⟩; rw [hw]; clear hw w3 BQ) | (go_at_call 51; refine (OQ.out).mono ?_; rintro e w4 ⟨rfl, b4⟩; have x4 := HX.out _ b4; clear OQ))
                  go_ret
                  exact ⟨ret_bool HF.out.symm, B1.out⟩
              · have g7 : (t.k == 7) = false := by simp [h7]
                by_cases hl0 : t.ls.length = 0
                · have gl : ¬ (t.ls.length : Int) > 0 := by omega
                  have hnil : t.ls = [] := List.eq_nil_of_length_eq_zero hl0
                  have hri : Tt.rise t.ls = true := by rw [hnil]; rfl
                  have HRL : Hid (res = Tt.rightL (t.ks.drop 0)) := by show _ = _; rw [HR, List.drop_zero]; simp [hk2, hk0, hkl, hn0, h6, h7, hl0, hri]
                  clear HR
                  try clear hk2
                  try clear hkl
                  try clear hn0
                  try clear h6
                  try clear h7
                  try clear hll2
                  try clear hri
                  rw [hl0] at XA B1 HX OQ KQ BQ x0 ⊢
                  go_enter Tryz.func26, Tryz.ntmps26
                  go_wp2_with (first | (go_at_call 49; refine (KQ.out).mono ?_; rintro e w3 ⟨rfl, hw⟩; rw [hw]; clear hw w3 KQ) | (go_at_call 50; refine (BQ.out).mono ?_; rintro e w3 ⟨rfl, hw⟩; rw [hw]; clear hw w3 BQ) | (go_at_call 51; refine (OQ.out).mono ?_; rintro e w4 ⟨rfl, b4⟩; have x4 := HX.out _ b4; clear OQ))
                  have BS : Hid (Below (w.alloc (.cells #[.int .i64 t.k, .int .i64 t.n, .slice a' 0 c', .slice a t.ks.length c] TY)).heap.size (w.alloc (.cells #[.int .i64 t.k, .int .i64 t.n, .slice a' 0 c', .slice a t.ks.length c] TY)) (w.alloc (.cells #[.int .i64 t.k, .int .i64 t.n, .slice a' 0 c', .slice a t.ks.length c] TY))) := hid (Below.refl _ _)
                  go_loopw [4] (fun v wr => ∃ i : Nat, v = .int .i64 i ∧ i ≤ t.ks.length ∧ Hid (res = Tt.rightL (t.ks.drop i)) ∧ Hid (Below (w.alloc (.cells #[.int .i64 t.k, .int .i64 t.n, .slice a' 0 c', .slice a t.ks.length c] TY)).heap.size (w.alloc (.cells #[.int .i64 t.k, .int .i64 t.n, .slice a' 0 c', .slice a t.ks.length c] TY)) wr)) (fun v _ => t.ks.length - (intOf v).toNat)
                  case atStart => exact ⟨0, rfl, Nat.zero_le _, HRL, BS⟩
                  case round =>
                    obtain ⟨i, rfl, hil, hr, hb⟩ := hrel
                    have x3 := HX.out _ hb.out
                    have BW := hid (bl_tr B1.out hb.out)
                    by_cases hlt : i < t.ks.length
                    · obtain ⟨x, hx⟩ : ∃ x, t.ks[i]? = some x := ⟨_, List.getElem?_eq_getElem hlt⟩
                      obtain ⟨kb, ko, k1, k2, k3, k4, rfl, hcap, z0, z1, z2, z3, hT⟩ := (HL.out wr BW.out).load hx
                      have HQ := hid (HIH.out wr k1 k2 k3 k4 x hT)
                      have HD2 := Tt.rightL_drop hx
                      have hlt2 : (i : Int) < t.ks.length := by omega
                      cases hd : x.right with
                      | false =>
                        have HR2 : Hid (res = false) := by show _ = _; rw [hr.out, HD2, hd]; rfl
                        rw [hd] at HQ
                        clear hr hx hT hd HD2
                        go_wp2_with (go_at_call 26; refine (HQ.out).mono ?_; rintro e w3 ⟨rfl, b3⟩; clear HQ)
                        go_ret
                        exact ⟨ret_bool HR2.out.symm, bl_tr BW.out b3⟩
                      | true =>
                        have HR2 : Hid (res = Tt.rightL (t.ks.drop (i + 1))) := by show _ = _; rw [hr.out, HD2, hd]; rfl
                        rw [hd] at HQ
                        clear hr hx hT hd HD2
                        go_wp2_with (go_at_call 26; refine (HQ.out).mono ?_; rintro e w3 ⟨rfl, b3⟩; clear HQ)
                        go_roundw
                        case rel => exact ⟨i + 1, by go_num, by omega, HR2, hid (bl_tr hb.out b3)⟩
                        case measure => simp [intOf]; omega
                    · have HR2 : Hid (res = true) := by show _ = _; rw [hr.out, List.drop_eq_nil_of_le (by omega), Tt.rightL]
                      have hi2 : ¬ (i : Int) < t.ks.length := by omega
                      clear hr
                      go_wp2
                      go_ret
                      exact ⟨ret_bool HR2.out.symm, BW.out⟩
                · have gl : (t.ls.length : Int) > 0 := by omega
                  have HF : Hid (res = false) := by show _ = _; rw [HR]; simp [h7, hl0]
                  clear HR
                  try clear hk2
                  try clear hkl
                  try clear hn0
                  try clear h6
                  try clear h7
                  try clear hll2
                  try clear hri
                  try clear hnil
                  try clear hl0
                  go_enter Tryz.func26, Tryz.ntmps26
                  go_wp2_with (first | (go_at_call 49; refine (KQ.out).mono ?_; rintro e w3 ⟨rfl, hw⟩; rw [hw]; clear hw w3 KQ) | (go_at_call 50; refine (BQ.out).mono ?_; rintro e w3 ⟨rfl, hw⟩; rw [hw]; clear hw w3 BQ) | (go_at_call 51; refine (OQ.out).mono ?_; rintro e w4 ⟨rfl, b4⟩; have x4 := HX.out _ b4; clear OQ))
                  go_ret
                  exact ⟨ret_bool HF.out.symm, B1.out⟩
            | false =>
              have HF : Hid (res = false) := by show _ = _; rw [HR]; simp [hn0, h6]
              clear HR
              try clear hk2
              try clear hkl
              try clear hn0
              try clear h6
              try clear h7
              try clear hll2
              try clear hri
              try clear hnil
              try clear hl0
              go_enter Tryz.func26, Tryz.ntmps26
              go_wp2_with (first | (go_at_call 49; refine (KQ.out).mono ?_; rintro e w3 ⟨rfl, hw⟩; rw [hw]; clear hw w3 KQ) | (go_at_call 50; refine (BQ.out).mono ?_; rintro e w3 ⟨rfl, hw⟩; rw [hw]; clear hw w3 BQ) | (go_at_call 51; refine (OQ.out).mono ?_; rintro e w4 ⟨rfl, b4⟩; have x4 := HX.out _ b4; clear OQ))
              go_ret
              exact ⟨ret_bool HF.out.symm, B1.out⟩
      · have gkl : ((t.ks.length : Int) != kd) = true := by simp [hkl]
        have HF : Hid (res = false) := by show _ = _; rw [HR]; simp [hk2, hk0, hkl]
        clear HR
        try clear hk2
        try clear hkl
        try clear hn0
        try clear h6
        try clear h7
        try clear hll2
        try clear hri
        try clear hnil
        try clear hl0
        go_enter Tryz.func26, Tryz.ntmps26
        go_wp2_with (first | (go_at_call 49; refine (KQ.out).mono ?_; rintro e w3 ⟨rfl, hw⟩; rw [hw]; clear hw w3 KQ) | (go_at_call 50; refine (BQ.out).mono ?_; rintro e w3 ⟨rfl, hw⟩; rw [hw]; clear hw w3 BQ) | (go_at_call 51; refine (OQ.out).mono ?_; rintro e w4 ⟨rfl, b4⟩; have x4 := HX.out _ b4; clear OQ))
        go_ret
        exact ⟨ret_bool HF.out.symm, B1.out⟩
    · have gk0 : ¬ kd ≥ 0 := hk0
      by_cases hn0 : t.n = 0
      · have gn : (t.n != 0) = false := by simp [hn0]
        by_cases h7 : t.k = 7
        · have g7 : (t.k == 7) = true := by simp [h7]
          by_cases hll2 : t.ls.length = t.ks.length
          · have gl : ((t.ls.length : Int) != (t.ks.length : Int)) = false := by simp [hll2]
            cases hri : Tt.rise t.ls with
            | true =>
              rw [hri] at OQ HR
              have HRL : Hid (res = Tt.rightL (t.ks.drop 0)) := by show _ = _; rw [HR, List.drop_zero]; simp [hk2, hk0, hn0, h7, hll2]
              clear HR
              try clear hk2
              try clear hkl
              try clear hn0
              try clear h6
              try clear h7
              try clear hll2
              try clear hri
              try clear hnil
              try clear hl0
              go_enter Tryz.func26, Tryz.ntmps26
              go_wp2_with (first | (go_at_call 49; refine (KQ.out).mono ?_; rintro e w3 ⟨rfl, hw⟩; rw [hw]; clear hw w3 KQ) | (go_at_call 50; refine (BQ.out).mono ?_; rintro e w3 ⟨rfl, hw⟩; rw [hw]; clear hw w3 BQ) | (go_at_call 51; refine (OQ.out).mono ?_; rintro e w4 ⟨rfl, b4⟩; have x4 := HX.out _ b4; clear OQ))
              have BS : Hid (Below (w.alloc (.cells #[.int .i64 t.k, .int .i64 t.n, .slice a' t.ls.length c', .slice a t.ks.length c] TY)).heap.size (w.alloc (.cells #[.int .i64 t.k, .int .i64 t.n, .slice a' t.ls.length c', .slice a t.ks.length c] TY)) w4) := hid b4
              go_loopw [4] (fun v wr => ∃ i : Nat, v = .int .i64 i ∧ i ≤ t.ks.length ∧ Hid (res = Tt.rightL (t.ks.drop i)) ∧ Hid (Below (w.alloc (.cells #[.int .i64 t.k, .int .i64 t.n, .slice a' t.ls.length c', .slice a t.ks.length c] TY)).heap.size (w.alloc (.cells #[.int .i64 t.k, .int .i64 t.n, .slice a' t.ls.length c', .slice a t.ks.length c] TY)) wr)) (fun v _ => t.ks.length - (intOf v).toNat)
              case atStart => exact ⟨0, rfl, Nat.zero_le _, HRL, BS⟩
              case round =>
                obtain ⟨i, rfl, hil, hr, hb⟩ := hrel
                have x3 := HX.out _ hb.out
                have BW := hid (bl_tr B1.out hb.out)
                by_cases hlt : i < t.ks.length
                · obtain ⟨x, hx⟩ : ∃ x, t.ks[i]? = some x := ⟨_, List.getElem?_eq_getElem hlt⟩
                  obtain ⟨kb, ko, k1, k2, k3, k4, rfl, hcap, z0, z1, z2, z3, hT⟩ := (HL.out wr BW.out).load hx
                  have HQ := hid (HIH.out wr k1 k2 k3 k4 x hT)
                  have HD2 := Tt.rightL_drop hx
                  have hlt2 : (i : Int) < t.ks.length := by omega
                  cases hd : x.right with
                  | false =>
                    have HR2 : Hid (res = false) := by show _ = _; rw [hr.out, HD2, hd]; rfl
                    rw [hd] at HQ
                    clear hr hx hT hd HD2
                    go_wp2_with (go_at_call 26; refine (HQ.out).mono ?_; rintro e w3 ⟨rfl, b3⟩; clear HQ)
                    go_ret
                    exact ⟨ret_bool HR2.out.symm, bl_tr BW.out b3⟩
                  | true =>
                    have HR2 : Hid (res = Tt.rightL (t.ks.drop (i + 1))) := by show _ = _; rw [hr.out, HD2, hd]; rfl
                    rw [hd] at HQ
                    clear hr hx hT hd HD2
                    go_wp2_with (go_at_call 26; refine (HQ.out).mono ?_; rintro e w3 ⟨rfl, b3⟩; clear HQ)
                    go_roundw
                    case rel => exact ⟨i + 1, by go_num, by omega, HR2, hid (bl_tr hb.out b3)⟩
                    case measure => simp [intOf]; omega
                · have HR2 : Hid (res = true) := by show _ = _; rw [hr.out, List.drop_eq_nil_of_le (by omega), Tt.rightL]
                  have hi2 : ¬ (i : Int) < t.ks.length := by omega
                  clear hr
                  go_wp2
                  go_ret
                  exact ⟨ret_bool HR2.out.symm, BW.out⟩
            | false =>
              rw [hri] at OQ HR
              have HF : Hid (res = false) := by show _ = _; rw [HR]; simp
              clear HR
              try clear hk2
              try clear hkl
              try clear hn0
              try clear h6
              try clear h7
              try clear hll2
              try clear hri
              try clear hnil
              try clear hl0
              go_enter Tryz.func26, Tryz.ntmps26
              go_wp2_with (first | (go_at_call 49; refine (KQ.out).mono ?_; rintro e w3 ⟨rfl, hw⟩; rw [hw]; clear hw w3 KQ) | (go_at_call 50; refine (BQ.out).mono ?_; rintro e w3 ⟨rfl, hw⟩; rw [hw]; clear hw w3 BQ) | (go_at_call 51; refine (OQ.out).mono ?_; rintro e w4 ⟨rfl, b4⟩; have x4 := HX.out _ b4; clear OQ))
              go_ret
              exact ⟨ret_bool HF.out.symm, bl_tr B1.out b4⟩
          · have gl : ((t.ls.length : Int) != (t.ks.length : Int)) = true := by simp; omega
            have HF : Hid (res = false) := by show _ = _; rw [HR]; simp [h7, hll2]
            clear HR
            try clear hk2
            try clear hkl
            try clear hn0
            try clear h6
            try clear h7
            try clear hll2
            try clear hri
            try clear hnil
            try clear hl0
            go_enter Tryz.func26, Tryz.ntmps26
            go_wp2_with (first | (go_at_call 49; refine (KQ.out).mono ?_; rintro e w3 ⟨rfl, hw⟩; rw [hw]; clear hw w3 KQ) | (go_at_call 50; refine (BQ.out).mono ?_; rintro e w3 ⟨rfl, hw⟩; rw [hw]; clear hw w3 BQ) | (go_at_call 51; refine (OQ.out).mono ?_; rintro e w4 ⟨rfl, b4⟩; have x4 := HX.out _ b4; clear OQ))
            go_ret
            exact ⟨ret_bool HF.out.symm, B1.out⟩
        · have g7 : (t.k == 7) = false := by simp [h7]
          by_cases hl0 : t.ls.length = 0
          · have gl : ¬ (t.ls.length : Int) > 0 := by omega
            have hnil : t.ls = [] := List.eq_nil_of_length_eq_zero hl0
            have hri : Tt.rise t.ls = true := by rw [hnil]; rfl
            have HRL : Hid (res = Tt.rightL (t.ks.drop 0)) := by show _ = _; rw [HR, List.drop_zero]; simp [hk2, hk0, hn0, h7, hl0, hri]
            clear HR
            try clear hk2
            try clear hkl
            try clear hn0
            try clear h6
            try clear h7
            try clear hll2
            try clear hri
            rw [hl0] at XA B1 HX OQ KQ BQ x0 ⊢
            go_enter Tryz.func26, Tryz.ntmps26
            go_wp2_with (first | (go_at_call 49; refine (KQ.out).mono ?_; rintro e w3 ⟨rfl, hw⟩; rw [hw]; clear hw w3 KQ) | (go_at_call 50; refine (BQ.out).mono ?_; rintro e w3 ⟨rfl, hw⟩; rw [hw]; clear hw w3 BQ) | (go_at_call 51; refine (OQ.out).mono ?_; rintro e w4 ⟨rfl, b4⟩; have x4 := HX.out _ b4; clear OQ))
            have BS : Hid (Below (w.alloc (.cells #[.int .i64 t.k, .int .i64 t.n, .slice a' 0 c', .slice a t.ks.length c] TY)).heap.size (w.alloc (.cells #[.int .i64 t.k, .int .i64 t.n, .slice a' 0 c', .slice a t.ks.length c] TY)) (w.alloc (.cells #[.int .i64 t.k, .int .i64 t.n, .slice a' 0 c', .slice a t.ks.length c] TY))) := hid (Below.refl _ _)
            go_loopw [4] (fun v wr => ∃ i : Nat, v = .int .i64 i ∧ i ≤ t.ks.length ∧ Hid (res = Tt.rightL (t.ks.drop i)) ∧ Hid (Below (w.alloc (.cells #[.int .i64 t.k, .int .i64 t.n, .slice a' 0 c', .slice a t.ks.length c] TY)).heap.size (w.alloc (.cells #[.int .i64 t.k, .int .i64 t.n, .slice a' 0 c', .slice a t.ks.length c] TY)) wr)) (fun v _ => t.ks.length - (intOf v).toNat)
            case atStart => exact ⟨0, rfl, Nat.zero_le _, HRL, BS⟩
            case round =>
              obtain ⟨i, rfl, hil, hr, hb⟩ := hrel
              have x3 := HX.out _ hb.out
              have BW := hid (bl_tr B1.out hb.out)
              by_cases hlt : i < t.ks.length
              · obtain ⟨x, hx⟩ : ∃ x, t.ks[i]? = some x := ⟨_, List.getElem?_eq_getElem hlt⟩
                obtain ⟨kb, ko, k1, k2, k3, k4, rfl, hcap, z0, z1, z2, z3, hT⟩ := (HL.out wr BW.out).load hx
                have HQ := hid (HIH.out wr k1 k2 k3 k4 x hT)
                have HD2 := Tt.rightL_drop hx
                have hlt2 : (i : Int) < t.ks.length := by omega
                cases hd : x.right with
                | false =>
                  have HR2 : Hid (res = false) := by show _ = _; rw [hr.out, HD2, hd]; rfl
                  rw [hd] at HQ
                  clear hr hx hT hd HD2
                  go_wp2_with (go_at_call 26; refine (HQ.out).mono ?_; rintro e w3 ⟨rfl, b3⟩; clear HQ)
                  go_ret
                  exact ⟨ret_bool HR2.out.symm, bl_tr BW.out b3⟩
                | true =>
                  have HR2 : Hid (res = Tt.rightL (t.ks.drop (i + 1))) := by show _ = _; rw [hr.out, HD2, hd]; rfl
                  rw [hd] at HQ
                  clear hr hx hT hd HD2
                  go_wp2_with (go_at_call 26; refine (HQ.out).mono ?_; rintro e w3 ⟨rfl, b3⟩; clear HQ)
                  go_roundw
                  case rel => exact ⟨i + 1, by go_num, by omega, HR2, hid (bl_tr hb.out b3)⟩
                  case measure => simp [intOf]; omega
              · have HR2 : Hid (res = true) := by show _ = _; rw [hr.out, List.drop_eq_nil_of_le (by omega), Tt.rightL]
                have hi2 : ¬ (i : Int) < t.ks.length := by omega
                clear hr
                go_wp2
                go_ret
                exact ⟨ret_bool HR2.out.symm, BW.out⟩
          · have gl : (t.ls.length : Int) > 0 := by omega
            have HF : Hid (res = false) := by show _ = _; rw [HR]; simp [h7, hl0]
            clear HR
            try clear hk2
            try clear hkl
            try clear hn0
            try clear h6
            try clear h7
            try clear hll2
            try clear hri
            try clear hnil
            try clear hl0
            go_enter Tryz.func26, Tryz.ntmps26
            go_wp2_with (first | (go_at_call 49; refine (KQ.out).mono ?_; rintro e w3 ⟨rfl, hw⟩; rw [hw]; clear hw w3 KQ) | (go_at_call 50; refine (BQ.out).mono ?_; rintro e w3 ⟨rfl, hw⟩; rw [hw]; clear hw w3 BQ) | (go_at_call 51; refine (OQ.out).mono ?_; rintro e w4 ⟨rfl, b4⟩; have x4 := HX.out _ b4; clear OQ))
            go_ret
            exact ⟨ret_bool HF.out.symm, B1.out⟩
      · have gn : (t.n != 0) = true := by simp [hn0]
        by_cases h6 : t.k = 6
        · have g6 : (t.k != 6) = false := by simp [h6]
          by_cases h7 : t.k = 7
          · exact absurd (h6.symm.trans h7) (by decide)
          · have g7 : (t.k == 7) = false := by simp [h7]
            by_cases hl0 : t.ls.length = 0
            · have gl : ¬ (t.ls.length : Int) > 0 := by omega
              have hnil : t.ls = [] := List.eq_nil_of_length_eq_zero hl0
              have hri : Tt.rise t.ls = true := by rw [hnil]; rfl
              have HRL : Hid (res = Tt.rightL (t.ks.drop 0)) := by show _ = _; rw [HR, List.drop_zero]; simp [hk2, hk0, hn0, h6, h7, hl0, hri]
              clear HR
              try clear hk2
              try clear hkl
              try clear hn0
              try clear h6
              try clear h7
              try clear hll2
              try clear hri
              rw [hl0] at XA B1 HX OQ KQ BQ x0 ⊢
              go_enter Tryz.func26, Tryz.ntmps26
              go_wp2_with (first | (go_at_call 49; refine (KQ.out).mono ?_; rintro e w3 ⟨rfl, hw⟩; rw [hw]; clear hw w3 KQ) | (go_at_call 50; refine (BQ.out).mono ?_; rintro e w3 ⟨rfl, hw⟩; rw [hw]; clear hw w3 BQ) | (go_at_call 51; refine (OQ.out).mono ?_; rintro e w4 ⟨rfl, b4⟩; have x4 := HX.out _ b4; clear OQ))
              have BS : Hid (Below (w.alloc (.cells #[.int .i64 t.k, .int .i64 t.n, .slice a' 0 c', .slice a t.ks.length c] TY)).heap.size (w.alloc (.cells #[.int .i64 t.k, .int .i64 t.n, .slice a' 0 c', .slice a t.ks.length c] TY)) (w.alloc (.cells #[.int .i64 t.k, .int .i64 t.n, .slice a' 0 c', .slice a t.ks.length c] TY))) := hid (Below.refl _ _)
              go_loopw [4] (fun v wr => ∃ i : Nat, v = .int .i64 i ∧ i ≤ t.ks.length ∧ Hid (res = Tt.rightL (t.ks.drop i)) ∧ Hid (Below (w.alloc (.cells #[.int .i64 t.k, .int .i64 t.n, .slice a' 0 c', .slice a t.ks.length c] TY)).heap.size (w.alloc (.cells #[.int .i64 t.k, .int .i64 t.n, .slice a' 0 c', .slice a t.ks.length c] TY)) wr)) (fun v _ => t.ks.length - (intOf v).toNat)
              case atStart => exact ⟨0, rfl, Nat.zero_le _, HRL, BS⟩
              case round =>
                obtain ⟨i, rfl, hil, hr, hb⟩ := hrel
                have x3 := HX.out _ hb.out
                have BW := hid (bl_tr B1.out hb.out)
                by_cases hlt : i < t.ks.length
                · obtain ⟨x, hx⟩ : ∃ x, t.ks[i]? = some x := ⟨_, List.getElem?_eq_getElem hlt⟩
                  obtain ⟨kb, ko, k1, k2, k3, k4, rfl, hcap, z0, z1, z2, z3, hT⟩ := (HL.out wr BW.out).load hx
                  have HQ := hid (HIH.out wr k1 k2 k3 k4 x hT)
                  have HD2 := Tt.rightL_drop hx
                  have hlt2 : (i : Int) < t.ks.length := by omega
                  cases hd : x.right with
                  | false =>
                    have HR2 : Hid (res = false) := by show _ = _; rw [hr.out, HD2, hd]; rfl
                    rw [hd] at HQ
                    clear hr hx hT hd HD2
                    go_wp2_with (go_at_call 26; refine (HQ.out).mono ?_; rintro e w3 ⟨rfl, b3⟩; clear HQ)
                    go_ret
                    exact ⟨ret_bool HR2.out.symm, bl_tr BW.out b3⟩
                  | true =>
                    have HR2 : Hid (res = Tt.rightL (t.ks.drop (i + 1))) := by show _ = _; rw [hr.out, HD2, hd]; rfl
                    rw [hd] at HQ
                    clear hr hx hT hd HD2
                    go_wp2_with (go_at_call 26; refine (HQ.out).mono ?_; rintro e w3 ⟨rfl, b3⟩; clear HQ)
                    go_roundw
                    case rel => exact ⟨i + 1, by go_num, by omega, HR2, hid (bl_tr hb.out b3)⟩
                    case measure => simp [intOf]; omega
                · have HR2 : Hid (res = true) := by show _ = _; rw [hr.out, List.drop_eq_nil_of_le (by omega), Tt.rightL]
                  have hi2 : ¬ (i : Int) < t.ks.length := by omega
                  clear hr
                  go_wp2
                  go_ret
                  exact ⟨ret_bool HR2.out.symm, BW.out⟩
            · have gl : (t.ls.length : Int) > 0 := by omega
              have HF : Hid (res = false) := by show _ = _; rw [HR]; simp [h7, hl0]
              clear HR
              try clear hk2
              try clear hkl
              try clear hn0
              try clear h6
              try clear h7
              try clear hll2
              try clear hri
              try clear hnil
              try clear hl0
              go_enter Tryz.func26, Tryz.ntmps26
              go_wp2_with (first | (go_at_call 49; refine (KQ.out).mono ?_; rintro e w3 ⟨rfl, hw⟩; rw [hw]; clear hw w3 KQ) | (go_at_call 50; refine (BQ.out).mono ?_; rintro e w3 ⟨rfl, hw⟩; rw [hw]; clear hw w3 BQ) | (go_at_call 51; refine (OQ.out).mono ?_; rintro e w4 ⟨rfl, b4⟩; have x4 := HX.out _ b4; clear OQ))
              go_ret
              exact ⟨ret_bool HF.out.symm, B1.out⟩
        · have g6 : (t.k != 6) = true := by simp [h6]
          cases bk with
          | true =>
            by_cases h7 : t.k = 7
            · have g7 : (t.k == 7) = true := by simp [h7]
              by_cases hll2 : t.ls.length = t.ks.length
              · have gl : ((t.ls.length : Int) != (t.ks.length : Int)) = false := by simp [hll2]
                cases hri : Tt.rise t.ls with
                | true =>
                  rw [hri] at OQ HR
                  have HRL : Hid (res = Tt.rightL (t.ks.drop 0)) := by show _ = _; rw [HR, List.drop_zero]; simp [hk2, hk0, hn0, h6, h7, hll2]
                  clear HR
                  try clear hk2
                  try clear hkl
                  try clear hn0
                  try clear h6
                  try clear h7
                  try clear hll2
                  try clear hri
                  try clear hnil
                  try clear hl0
                  go_enter Tryz.func26, Tryz.ntmps26
                  go_wp2_with (first | (go_at_call 49; refine (KQ.out).mono ?_; rintro e w3 ⟨rfl, hw⟩; rw [hw]; clear hw w3 KQ) | (go_at_call 50; refine (BQ.out).mono ?_; rintro e w3 ⟨rfl, hw⟩; rw [hw]; clear hw w3 BQ) | (go_at_call 51; refine (OQ.out).mono ?_; rintro e w4 ⟨rfl, b4⟩; have x4 := HX.out _ b4; clear OQ))
                  have BS : Hid (Below (w.alloc (.cells #[.int .i64 t.k, .int .i64 t.n, .slice a' t.ls.length c', .slice a t.ks.length c] TY)).heap.size (w.alloc (.cells #[.int .i64 t.k, .int .i64 t.n, .slice a' t.ls.length c', .slice a t.ks.length c] TY)) w4) := hid b4
                  go_loopw [4] (fun v wr => ∃ i : Nat, v = .int .i64 i ∧ i ≤ t.ks.length ∧ Hid (res = Tt.rightL (t.ks.drop i)) ∧ Hid (Below (w.alloc (.cells #[.int .i64 t.k, .int .i64 t.n, .slice a' t.ls.length c', .slice a t.ks.length c] TY)).heap.size (w.alloc (.cells #[.int .i64 t.k, .int .i64 t.n, .slice a' t.ls.length c', .slice a t.ks.length c] TY)) wr)) (fun v _ => t.ks.length - (intOf v).toNat)
                  case atStart => exact ⟨0, rfl, Nat.zero_le _, HRL, BS⟩
                  case round =>
                    obtain ⟨i, rfl, hil, hr, hb⟩ := hrel
                    have x3 := HX.out _ hb.out
                    have BW := hid (bl_tr B1.out hb.out)
                    by_cases hlt : i < t.ks.length
                    · obtain ⟨x, hx⟩ : ∃ x, t.ks[i]? = some x := ⟨_, List.getElem?_eq_getElem hlt⟩
                      obtain ⟨kb, ko, k1, k2, k3, k4, rfl, hcap, z0, z1, z2, z3, hT⟩ := (HL.out wr BW.out).load hx
                      have HQ := hid (HIH.out wr k1 k2 k3 k4 x hT)
                      have HD2 := Tt.rightL_drop hx
                      have hlt2 : (i : Int) < t.ks.length := by omega
                      cases hd : x.right with
                      | false =>
                        have HR2 : Hid (res = false) := by show _ = _; rw [hr.out, HD2, hd]; rfl
                        rw [hd] at HQ
                        clear hr hx hT hd HD2
                        go_wp2_with (go_at_call 26; refine (HQ.out).mono ?_; rintro e w3 ⟨rfl, b3⟩; clear HQ)
                        go_ret
                        exact ⟨ret_bool HR2.out.symm, bl_tr BW.out b3⟩
                      | true =>
                        have HR2 : Hid (res = Tt.rightL (t.ks.drop (i + 1))) := by show _ = _; rw [hr.out, HD2, hd]; rfl
                        rw [hd] at HQ
                        clear hr hx hT hd HD2
                        go_wp2_with (go_at_call 26; refine (HQ.out).mono ?_; rintro e w3 ⟨rfl, b3⟩; clear HQ)
                        go_roundw
                        case rel => exact ⟨i + 1, by go_num, by omega, HR2, hid (bl_tr hb.out b3)⟩
                        case measure => simp [intOf]; omega
                    · have HR2 : Hid (res = true) := by show _ = _; rw [hr.out, List.drop_eq_nil_of_le (by omega), Tt.rightL]
                      have hi2 : ¬ (i : Int) < t.ks.length := by omega
                      clear hr
                      go_wp2
                      go_ret
                      exact ⟨ret_bool HR2.out.symm, BW.out⟩
                | false =>
                  rw [hri] at OQ HR
                  have HF : Hid (res = false) := by show _ = _; rw [HR]; simp
                  clear HR
                  try clear hk2
                  try clear hkl
                  try clear hn0
                  try clear h6
                  try clear h7
                  try clear hll2
                  try clear hri
                  try clear hnil
                  try clear hl0
                  go_enter Tryz.func26, Tryz.ntmps26
                  go_wp2_with (first | (go_at_call 49; refine (KQ.out).mono ?_; rintro e w3 ⟨rfl, hw⟩; rw [hw]; clear hw w3 KQ) | (go_at_call 50; refine (BQ.out).mono ?_; rintro e w3 ⟨rfl, hw⟩; rw [hw]; clear hw w3 BQ) | (go_at_call 51; refine (OQ.out).mono ?_; rintro e w4 ⟨rfl, b4⟩; have x4 := HX.out _ b4; clear OQ))
                  go_ret
                  exact ⟨ret_bool HF.out.symm, bl_tr B1.out b4⟩
              · have gl : ((t.ls.length : Int) != (t.ks.length : Int)) = true := by simp; omega
                have HF : Hid (res = false) := by show _ = _; rw [HR]; simp [h7, hll2]
                clear HR
                try clear hk2
                try clear hkl
                try clear hn0
                try clear h6
                try clear h7
                try clear hll2
                try clear hri
                try clear hnil
                try clear hl0
                go_enter Tryz.func26, Tryz.ntmps26
                go_wp2_with (first | (go_at_call 49; refine (KQ.out).mono ?_; rintro e w3 ⟨rfl, hw⟩; rw [hw]; clear hw w3 KQ) | (go_at_call 50; refine (BQ.out).mono ?_; rintro e w3 ⟨rfl, hw⟩; rw [hw]; clear hw w3 BQ) | (go_at_call 51; refine (OQ.out).mono ?_; rintro e w4 ⟨rfl, b4⟩; have x4 := HX.out _ b4; clear OQ))
                go_ret
                exact ⟨ret_bool HF.out.symm, B1.out⟩
            · have g7 : (t.k == 7) = false := by simp [h7]
              by_cases hl0 : t.ls.length = 0
              · have gl : ¬ (t.ls.length : Int) > 0 := by omega
                have hnil : t.ls = [] := List.eq_nil_of_length_eq_zero hl0
                have hri : Tt.rise t.ls = true := by rw [hnil]; rfl
                have HRL : Hid (res = Tt.rightL (t.ks.drop 0)) := by show _ = _; rw [HR, List.drop_zero]; simp [hk2, hk0, hn0, h6, h7, hl0, hri]
                clear HR
                try clear hk2
                try clear hkl
                try clear hn0
                try clear h6
                try clear h7
                try clear hll2
                try clear hri
                rw [hl0] at XA B1 HX OQ KQ BQ x0 ⊢
                go_enter Tryz.func26, Tryz.ntmps26
                go_wp2_with (first | (go_at_call 49; refine (KQ.out).mono ?_; rintro e w3 ⟨rfl, hw⟩; rw [hw]; clear hw w3 KQ) | (go_at_call 50; refine (BQ.out).mono ?_; rintro e w3 ⟨rfl, hw⟩; rw [hw]; clear hw w3 BQ) | (go_at_call 51; refine (OQ.out).mono ?_; rintro e w4 ⟨rfl, b4⟩; have x4 := HX.out _ b4; clear OQ))
                have BS : Hid (Below (w.alloc (.cells #[.int .i64 t.k, .int .i64 t.n, .slice a' 0 c', .slice a t.ks.length c] TY)).heap.size (w.alloc (.cells #[.int .i64 t.k, .int .i64 t.n, .slice a' 0 c', .slice a t.ks.length c] TY)) (w.alloc (.cells #[.int .i64 t.k, .int .i64 t.n, .slice a' 0 c', .slice a t.ks.length c] TY))) := hid (Below.refl _ _)
                go_loopw [4] (fun v wr => ∃ i : Nat, v = .int .i64 i ∧ i ≤ t.ks.length ∧ Hid (res = Tt.rightL (t.ks.drop i)) ∧ Hid (Below (w.alloc (.cells #[.int .i64 t.k, .int .i64 t.n, .slice a' 0 c', .slice a t.ks.length c] TY)).heap.size (w.alloc (.cells #[.int .i64 t.k, .int .i64 t.n, .slice a' 0 c', .slice a t.ks.length c] TY)) wr)) (fun v _ => t.ks.length - (intOf v).toNat)
                case atStart => exact ⟨0, rfl, Nat.zero_le _, HRL, BS⟩
                case round =>
                  obtain ⟨i, rfl, hil, hr, hb⟩ := hrel
                  have x3 := HX.out _ hb.out
                  have BW := hid (bl_tr B1.out hb.out)
                  by_cases hlt : i < t.ks.length
                  · obtain ⟨x, hx⟩ : ∃ x, t.ks[i]? = some x := ⟨_, List.getElem?_eq_getElem hlt⟩
                    obtain ⟨kb, ko, k1, k2, k3, k4, rfl, hcap, z0, z1, z2, z3, hT⟩ := (HL.out wr BW.out).load hx
                    have HQ := hid (HIH.out wr k1 k2 k3 k4 x hT)
                    have HD2 := Tt.rightL_drop hx
                    have hlt2 : (i : Int) < t.ks.length := by omega
                    cases hd : x.right with
                    | false =>
                      have HR2 : Hid (res = false) := by show _ = _; rw [hr.out, HD2, hd]; rfl
                      rw [hd] at HQ
                      clear hr hx hT hd HD2
                      go_wp2_with (go_at_call 26; refine (HQ.out).mono ?_; rintro e w3 ⟨rfl, b3⟩; clear HQ)
                      go_ret
                      exact ⟨ret_bool HR2.out.symm, bl_tr BW.out b3⟩
                    | true =>
                      have HR2 : Hid (res = Tt.rightL (t.ks.drop (i + 1))) := by show _ = _; rw [hr.out, HD2, hd]; rfl
                      rw [hd] at HQ
                      clear hr hx hT hd HD2
                      go_wp2_with (go_at_call 26; refine (HQ.out).mono ?_; rintro e w3 ⟨rfl, b3⟩; clear HQ)
                      go_roundw
                      case rel => exact ⟨i + 1, by go_num, by omega, HR2, hid (bl_tr hb.out b3)⟩
                      case measure => simp [intOf]; omega
                  · have HR2 : Hid (res = true) := by show _ = _; rw [hr.out, List.drop_eq_nil_of_le (by omega), Tt.rightL]
                    have hi2 : ¬ (i : Int) < t.ks.length := by omega
                    clear hr
                    go_wp2
                    go_ret
                    exact ⟨ret_bool HR2.out.symm, BW.out⟩
              · have gl : (t.ls.length : Int) > 0 := by omega
                have HF : Hid (res = false) := by show _ = _; rw [HR]; simp [h7, hl0]
                clear HR
                try clear hk2
                try clear hkl
                try clear hn0
                try clear h6
                try clear h7
                try clear hll2
                try clear hri
                try clear hnil
                try clear hl0
                go_enter Tryz.func26, Tryz.ntmps26
                go_wp2_with (first | (go_at_call 49; refine (KQ.out).mono ?_; rintro e w3 ⟨rfl, hw⟩; rw [hw]; clear hw w3 KQ) | (go_at_call 50; refine (BQ.out).mono ?_; rintro e w3 ⟨rfl, hw⟩; rw [hw]; clear hw w3 BQ) | (go_at_call 51; refine (OQ.out).mono ?_; rintro e w4 ⟨rfl, b4⟩; have x4 := HX.out _ b4; clear OQ))
                go_ret
                exact ⟨ret_bool HF.out.symm, B1.out⟩
          | false =>
            have HF : Hid (res = false) := by show _ = _; rw [HR]; simp [hn0, h6]
            clear HR
            try clear hk2
            try clear hkl
            try clear hn0
            try clear h6
            try clear h7
            try clear hll2
            try clear hri
            try clear hnil
            try clear hl0
            go_enter Tryz.func26, Tryz.ntmps26
            go_wp2_with (first | (go_at_call 49; refine (KQ.out).mono ?_; rintro e w3 ⟨rfl, hw⟩; rw [hw]; clear hw w3 KQ) | (go_at_call 50; refine (BQ.out).mono ?_; rintro e w3 ⟨rfl, hw⟩; rw [hw]; clear hw w3 BQ) | (go_at_call 51; refine (OQ.out).mono ?_; rintro e w4 ⟨rfl, b4⟩; have x4 := HX.out _ b4; clear OQ))
            go_ret
            exact ⟨ret_bool HF.out.symm, B1.out⟩
theorem rright_any : ∀ n, RRightOf n
  | 0 => fun w a' c' a c t h => h.elim
  | n + 1 => rright_step n (rright_any n)

set_option maxHeartbeats 1000000 in
set_option maxRecDepth 100000 in
theorem RRightType_any (w : World) (n : Nat) (us : List Value) (t : Tt) (h : TAt w Any n us t) : Calls Tryz.prog 8 #[.agg us.toArray] w fun e w' => e = .returned (.int .i64 t.errno) ∧ Below w.heap.size w w' := by
  obtain ⟨a', c', a, c, rfl⟩ := h.form
  have XA : Hid (Arr (w.alloc (.cells #[.int .i64 t.k, .int .i64 t.n, .slice a' t.ls.length c', .slice a t.ks.length c] TY)) w.heap.size TY [.int .i64 t.k, .int .i64 t.n, .slice a' t.ls.length c', .slice a t.ks.length c]) := ⟨heap_alloc_at _ _⟩
  have B1 : Hid (Below w.heap.size w (w.alloc (.cells #[.int .i64 t.k, .int .i64 t.n, .slice a' t.ls.length c', .slice a t.ks.length c] TY))) := bl_alloc (Below.refl _ _) _
  have DQ := hid (rdeep_any n (w.alloc (.cells #[.int .i64 t.k, .int .i64 t.n, .slice a' t.ls.length c', .slice a t.ks.length c] TY)) a' c' a c t 100000 (h.below B1.out) (Nat.le_refl _))
  have RQ : Hid (∀ wz, Below (w.alloc (.cells #[.int .i64 t.k, .int .i64 t.n, .slice a' t.ls.length c', .slice a t.ks.length c] TY)).heap.size (w.alloc (.cells #[.int .i64 t.k, .int .i64 t.n, .slice a' t.ls.length c', .slice a t.ks.length c] TY)) wz → Calls Tryz.prog 26 #[.agg #[.int .i64 t.k, .int .i64 t.n, .slice a' t.ls.length c', .slice a t.ks.length c]] wz fun e w' => e = .returned (.bool t.right) ∧ Below wz.heap.size wz w') := fun wz hz => rright_any n wz a' c' a c t (h.below (bl_tr B1.out hz))
  have HX : Hid (∀ wz, Below (w.alloc (.cells #[.int .i64 t.k, .int .i64 t.n, .slice a' t.ls.length c', .slice a t.ks.length c] TY)).heap.size (w.alloc (.cells #[.int .i64 t.k, .int .i64 t.n, .slice a' t.ls.length c', .slice a t.ks.length c] TY)) wz → ∀ j, wz.cell? ⟨w.heap.size, j, none⟩ = [.int .i64 t.k, .int .i64 t.n, .slice a' t.ls.length c', .slice a t.ks.length c][j]?) := fun wz hz j => (XA.out.stays hz).cell j
  have HE : t.errno = if 100000 < t.deepest then 4 else if t.right then 0 else 1 := rfl
  have x0 := XA.out.cell
  clear h
  generalize t.errno = res at HE ⊢
  have DQ : Hid (Calls Tryz.prog 25 #[.agg #[.int .i64 t.k, .int .i64 t.n, .slice a' t.ls.length c', .slice a t.ks.length c], .int .i64 100000] (w.alloc (.cells #[.int .i64 t.k, .int .i64 t.n, .slice a' t.ls.length c', .slice a t.ks.length c] TY)) fun e w' => e = .returned (.bool (decide (100000 < t.deepest))) ∧ Below (w.alloc (.cells #[.int .i64 t.k, .int .i64 t.n, .slice a' t.ls.length c', .slice a t.ks.length c] TY)).heap.size (w.alloc (.cells #[.int .i64 t.k, .int .i64 t.n, .slice a' t.ls.length c', .slice a t.ks.length c] TY)) w') := DQ
  by_cases hd : 100000 < t.deepest
  · rw [if_pos hd] at HE
    rw [decide_eq_true hd] at DQ
    have HF := hid HE
    clear HE hd RQ
    go_enter Tryz.func8, Tryz.ntmps8
    go_wp2_with (go_at_call 25; refine (DQ.out).mono ?_; rintro e w3 ⟨rfl, b3⟩; clear DQ)
    go_ret
    exact ⟨ret_int HF.out.symm, bl_tr B1.out b3⟩
  · rw [if_neg hd] at HE
    rw [decide_eq_false hd] at DQ
    clear hd
    cases hr : t.right with
    | true =>
      rw [hr] at HE RQ
      have HF : Hid (res = 0) := HE
      clear HE hr
      go_enter Tryz.func8, Tryz.ntmps8
      go_wp2_with (first | (go_at_call 25; refine (DQ.out).mono ?_; rintro e w3 ⟨rfl, b3⟩; have x3 := HX.out _ b3; clear DQ) | (go_at_call 26; refine (RQ.out _ b3).mono ?_; rintro e w4 ⟨rfl, b4⟩; clear RQ))
      go_ret
      exact ⟨ret_int HF.out.symm, bl_tr (bl_tr B1.out b3) b4⟩
    | false =>
      rw [hr] at HE RQ
      have HF : Hid (res = 1) := HE
      clear HE hr
      go_enter Tryz.func8, Tryz.ntmps8
      go_wp2_with (first | (go_at_call 25; refine (DQ.out).mono ?_; rintro e w3 ⟨rfl, b3⟩; have x3 := HX.out _ b3; clear DQ) | (go_at_call 26; refine (RQ.out _ b3).mono ?_; rintro e w4 ⟨rfl, b4⟩; clear RQ))
      go_ret
      exact ⟨ret_int HF.out.symm, bl_tr (bl_tr B1.out b3) b4⟩
end Go.Proofs.YtfeppchgmobfpaaGreatDoor
