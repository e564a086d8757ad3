/- The walk of NamesOrder. -/
import Derived.Deep.CutRange
import Derived.Test.YtcccmbiocknknaaDoorSet2
namespace Go.Proofs.YtcccmbiocknknaaDoor
open Go.RowKit Go.Shelf Go.Sort
set_option linter.unusedVariables false

theorem cmp_is {a b : ByteArray} {k : Int} (h : Hid (Lib.compareBytes a.data.toList b.data.toList = k)) (w : World) : Calls Tryd.prog 24 #[.string a, .string b] w fun e w' => e = .returned (.int .i64 k) ∧ w' = w := by
  refine (cmp_any a b w).mono ?_
  rintro e w' ⟨rfl, rfl⟩
  exact ⟨ret_int h.out, rfl⟩

theorem datas_inj {xs ys : List ByteArray} (h : Nm.datas xs = Nm.datas ys) : xs = ys := by
  have e := congrArg (List.map fun l : List UInt8 => (⟨l.toArray⟩ : ByteArray)) h
  unfold Nm.datas at e
  rw [List.map_map, List.map_map] at e
  have id1 : ((fun l : List UInt8 => (⟨l.toArray⟩ : ByteArray)) ∘ fun x : ByteArray => x.data.toList) = id := rfl
  rwa [id1, List.map_id, List.map_id] at e
theorem bytes_inj' {a b : ByteArray} (h : a.data.toList = b.data.toList) : a = b := by
  cases a; cases b; congr 1; exact Array.toList_inj.1 h
/-- Whether a text stands among the first m. -/
def Found (xs : List ByteArray) (y : ByteArray) (m : Nat) (fb : Bool) : Prop := fb = true ↔ ∃ j, j < m ∧ xs[j]? = some y
theorem Found.start (xs : List ByteArray) (y : ByteArray) : Found xs y 0 false := ⟨(fun h => by cases h), (fun ⟨j, hj, _⟩ => by omega)⟩
theorem Found.on {xs : List ByteArray} {y : ByteArray} {m : Nat} (h : Found xs y m true) : Found xs y (m + 1) true := ⟨fun _ => by obtain ⟨j, hj, e⟩ := h.1 rfl; exact ⟨j, by omega, e⟩, fun _ => rfl⟩
theorem Found.hit {xs : List ByteArray} {y : ByteArray} {m : Nat} (h : xs[m]? = some y) : Found xs y (m + 1) true := ⟨fun _ => ⟨m, by omega, h⟩, fun _ => rfl⟩
theorem Found.miss {xs : List ByteArray} {x y : ByteArray} {m : Nat} (h : Found xs y m false) (hx : xs[m]? = some x) (he : ¬ x = y) : Found xs y (m + 1) false := by
  refine ⟨(fun k => by cases k), ?_⟩
  rintro ⟨j, hj, e⟩
  by_cases ej : j = m
  · subst ej; rw [hx] at e; exact absurd (Option.some.inj e) he
  · exact h.2 ⟨j, by omega, e⟩
theorem Found.all {xs : List ByteArray} {y : ByteArray} {m : Nat} {fb : Bool} (h : Found xs y m fb) (hm : xs.length ≤ m) (hy : y ∈ xs) : fb = true := h.2 (by
  obtain ⟨j, hj⟩ := List.mem_iff_getElem?.1 hy
  exact ⟨j, by have := (List.getElem?_eq_some_iff.1 hj).1; omega, hj⟩)
theorem IsSet.self {xs ys : List (List UInt8)} (h : IsSet xs ys) : IsSet ys ys := ⟨h.asc, fun x => Iff.rfl⟩

set_option maxRecDepth 100000 in
set_option maxHeartbeats 4000000 in
theorem order_x (a b c : ByteArray) (v : Value) (xs : List ByteArray) (w : World) (hv : Strs w v xs) (hbig : xs.length * 16 ≤ 140737488355328) :
    Calls Tryd.prog 7 #[.string a, .string b, .string c, v] w fun e w' => e = .returned (.bool true) ∧ Below w.heap.size w w' := by
  have sab := Nm.cmp_swap a.data.toList b.data.toList
  have hN : xs.length ≤ 8796093022208 := by omega
  go_enter Tryd.func7, Tryd.ntmps7
  go_upto_region 2 with (go_at_call 24; refine (cmp_any _ _ _).mono ?_; rintro e w1 ⟨rfl, hw1⟩; rw [hw1]; clear hw1 w1)
  go_cut [9, 49] from 17 to 49 (fun k49 v49 wx => v49 = .bool false ∧ wx = w)
  case first =>
    rcases Nm.cmp_three a.data.toList b.data.toList with e | e | e
    · have e2 : Lib.compareBytes b.data.toList a.data.toList = 1 := by rw [sab, e]; rfl
      have hab : (a.toList == b.toList) = false := by rw [Nm.str_eq, decide_eq_false]; intro h; rw [h, Nm.cmp_refl] at e; omega
      rcases Nm.cmp_three b.data.toList c.data.toList with f | f | f
      · have g : Lib.compareBytes a.data.toList c.data.toList = -1 := Nm.cmp_trans e f
        clear sab
        go_wp2_with (go_at_call 24; refine (cmp_any _ _ _).mono ?_; rintro e w1 ⟨rfl, hw1⟩; rw [hw1]; clear hw1 w1)
        go_meet
        exact ⟨rfl, rfl⟩
      · have g : Lib.compareBytes a.data.toList c.data.toList = -1 := by rw [← Nm.cmp_eq f]; exact e
        clear sab
        go_wp2_with (go_at_call 24; refine (cmp_any _ _ _).mono ?_; rintro e w1 ⟨rfl, hw1⟩; rw [hw1]; clear hw1 w1)
        go_meet
        exact ⟨rfl, rfl⟩
      · clear sab
        go_wp2_with (go_at_call 24; refine (cmp_any _ _ _).mono ?_; rintro e w1 ⟨rfl, hw1⟩; rw [hw1]; clear hw1 w1)
        go_meet
        exact ⟨rfl, rfl⟩
    · have e2 : Lib.compareBytes b.data.toList a.data.toList = 0 := by rw [sab, e]; rfl
      have heq : a = b := by cases a; cases b; congr 1; exact Array.toList_inj.1 (Nm.cmp_eq e)
      have hab : (a.toList == b.toList) = true := by rw [heq]; exact beq_self_eq_true _
      rcases Nm.cmp_three b.data.toList c.data.toList with f | f | f
      · have g : Lib.compareBytes a.data.toList c.data.toList = -1 := by rw [heq]; exact f
        clear sab heq
        go_wp2_with (go_at_call 24; refine (cmp_any _ _ _).mono ?_; rintro e w1 ⟨rfl, hw1⟩; rw [hw1]; clear hw1 w1)
        go_meet
        exact ⟨rfl, rfl⟩
      · have g : Lib.compareBytes a.data.toList c.data.toList = 0 := by rw [heq]; exact f
        clear sab heq
        go_wp2_with (go_at_call 24; refine (cmp_any _ _ _).mono ?_; rintro e w1 ⟨rfl, hw1⟩; rw [hw1]; clear hw1 w1)
        go_meet
        exact ⟨rfl, rfl⟩
      · clear sab heq
        go_wp2_with (go_at_call 24; refine (cmp_any _ _ _).mono ?_; rintro e w1 ⟨rfl, hw1⟩; rw [hw1]; clear hw1 w1)
        go_meet
        exact ⟨rfl, rfl⟩
    · have e2 : Lib.compareBytes b.data.toList a.data.toList = -1 := by rw [sab, e]
      have hab : (a.toList == b.toList) = false := by rw [Nm.str_eq, decide_eq_false]; intro h; rw [h, Nm.cmp_refl] at e; omega
      clear sab
      go_wp2_with (go_at_call 24; refine (cmp_any _ _ _).mono ?_; rintro e w1 ⟨rfl, hw1⟩; rw [hw1]; clear hw1 w1)
      go_meet
      exact ⟨rfl, rfl⟩
  case rest =>
    obtain ⟨rfl, rfl⟩ := hcut
    clear sab
    go_upto_region 7 with (first
      | (go_at_call 23; have _ := m1; refine (set_any _ _ _ k1.st hbig1).mono ?_; rintro e w2 ⟨v2, zs, rfl, k2, i2, hl2, hb2⟩; have he : zs = ys := datas_inj (i2.unique i1.self); subst he; have m2 := True.intro)
      | (go_at_call 23; refine (set_any _ _ _ hv hbig).mono ?_; rintro e w1 ⟨v1, ys, rfl, k1, i1, hl1, hb1⟩; have m1 := True.intro; have hbig1 : ys.length * 16 ≤ 140737488355328 := by omega)
      | (go_at_call 10; refine (texts_any _ _ _ _ _ k2.st (k1.st.below hb2 (Nat.le_refl _)) (by unfold maxLen; omega) (by unfold maxLen; omega)).mono ?_; rintro e w3 ⟨rfl, n3, rfl⟩))
    have hB2 : Below wc.heap.size wc w2 := btr hb1 hb2
    have hv2 := hv.below hB2 (Nat.le_refl _)
    have hk2 := k1.st.below hb2 (Nat.le_refl _)
    have hmem : ∀ x, x ∈ zs ↔ x ∈ xs := fun x => by
      constructor
      · intro h
        have := (i1.mem x.data.toList).1 (List.mem_map.2 ⟨x, h, rfl⟩)
        obtain ⟨y, hy, e⟩ := List.mem_map.1 this
        rwa [← bytes_inj' e]
      · intro h
        have := (i1.mem x.data.toList).2 (List.mem_map.2 ⟨x, h, rfl⟩)
        obtain ⟨y, hy, e⟩ := List.mem_map.1 this
        rwa [← bytes_inj' e]
    have hasc : ∀ j x y, zs[j]? = some x → zs[j + 1]? = some y → Lib.compareBytes x.data.toList y.data.toList = -1 := fun j x y hx hy => by
      have hp := i1.asc
      obtain ⟨l1, e1⟩ := List.getElem?_eq_some_iff.1 hx
      obtain ⟨l2, e2⟩ := List.getElem?_eq_some_iff.1 hy
      have := List.pairwise_iff_getElem.1 hp j (j + 1) (by simpa [Nm.datas] using l1) (by simpa [Nm.datas] using l2) (by omega)
      simpa [Nm.datas, e1, e2] using this
    have hlen : zs.length ≤ xs.length := hl1
    have HMEM : Hid (∀ x, x ∈ zs ↔ x ∈ xs) := hmem
    have HASC : Hid (∀ j x y, zs[j]? = some x → zs[j + 1]? = some y → Lib.compareBytes x.data.toList y.data.toList = -1) := hasc
    by_cases h0 : xs = []
    · subst h0
      obtain rfl : zs = [] := List.eq_nil_of_length_eq_zero (by simpa using hlen)
      obtain ⟨p1, c1, rfl⟩ := strs_shape hv2
      obtain ⟨p3, c3, rfl⟩ := strs_shape hk2
      clear hv hv2 hk2 k1 k2 i1 i2 hmem hasc hb1 hb2 hl1 hl2 m1 m2 hbig1 HMEM HASC
      go_wp2
      go_loopw [11] (fun iv wr => iv = .int .i64 0 ∧ ∃ n, wr = w2.drewN n) (fun _ _ => 0)
      case atStart => exact ⟨rfl, _, rfl⟩
      case round =>
        obtain ⟨rfl, n, rfl⟩ := hrel
        go_wp2
        go_loopw [14] (fun iv wr => iv = .int .i64 0 ∧ ∃ n, wr = w2.drewN n) (fun _ _ => 0)
        case atStart => exact ⟨rfl, _, rfl⟩
        case round =>
          obtain ⟨rfl, n, rfl⟩ := hrel
          go_wp2_with (go_at_call 22; refine (alive_any _).mono ?_; rintro e w9 ⟨rfl, hb9⟩)
          go_ret
          exact ⟨rfl, btr (bdN hB2 _) hb9⟩
    · obtain ⟨b1, o1, c1, rfl, hc1⟩ : ∃ b o c, v = .slice (some ⟨b, o, none⟩) xs.length c ∧ ∀ (j : Nat) x, xs[j]? = some x → w2.cell? ⟨b, o + j, none⟩ = some (.string x) := by
        rcases hv2 with h | ⟨h, _⟩
        · exact h
        · exact absurd h h0
      obtain ⟨b3, o3, c3, rfl, hc3⟩ : ∃ b o c, v1 = .slice (some ⟨b, o, none⟩) zs.length c ∧ ∀ (j : Nat) x, zs[j]? = some x → w2.cell? ⟨b, o + j, none⟩ = some (.string x) := by
        rcases hk2 with h | ⟨h, _⟩
        · exact h
        · exfalso
          obtain ⟨x, hx⟩ := List.exists_mem_of_ne_nil xs h0
          have := (hmem x).2 hx
          rw [h] at this; cases this
      clear hv hv2 hk2 k1 k2 i1 i2 hmem hasc hb1 hb2 hl1 hl2 h0 m1 m2 hbig1
      go_wp2
      go_loopw [11] (fun iv wr => ∃ k : Nat, iv = .int .i64 k ∧ k ≤ zs.length ∧ ∃ n, wr = w2.drewN n) (fun iv _ => zs.length - (intOf iv).toNat)
      case atStart => exact ⟨0, rfl, Nat.zero_le _, _, rfl⟩
      case round =>
        obtain ⟨k, rfl, hk, n, rfl⟩ := hrel
        by_cases hlt : k < zs.length
        · obtain ⟨y, hy⟩ : ∃ y, zs[k]? = some y := ⟨_, List.getElem?_eq_getElem hlt⟩
          have dy := hc3 k y hy
          go_wp2
          go_loopw [12, 13] (fun fv iv wr => ∃ (m : Nat) (fb : Bool), iv = .int .i64 m ∧ fv = .bool fb ∧ m ≤ xs.length ∧ Found xs y m fb ∧ ∃ n, wr = w2.drewN n) (fun _ iv _ => xs.length - (intOf iv).toNat)
          case atStart => exact ⟨0, false, rfl, rfl, Nat.zero_le _, Found.start _ _, _, rfl⟩
          case round =>
            obtain ⟨m, fb, rfl, rfl, hm, hf, n', rfl⟩ := hrel
            by_cases hml : m < xs.length
            · obtain ⟨x, hx⟩ : ∃ x, xs[m]? = some x := ⟨_, List.getElem?_eq_getElem hml⟩
              have dx := hc1 m x hx
              cases fb with
              | true =>
                have HF := hf.on
                clear hf hc1 hc3 hx hy
                go_wp2
                go_quiet (fail)
                go_wp2
                go_roundw
                case rel => exact ⟨m + 1, true, by go_num, rfl, by omega, HF, _, rfl⟩
                case measure => simp [intOf]; omega
              | false =>
                by_cases he : x = y
                · subst he
                  have HF := Found.hit hx
                  have h3 : (x.toList == x.toList) = true := beq_self_eq_true _
                  clear hf hc1 hc3 hx hy
                  go_wp2
                  go_quiet (fail)
                  go_wp2
                  go_roundw
                  case rel => exact ⟨m + 1, true, by go_num, rfl, by omega, HF, _, rfl⟩
                  case measure => simp [intOf]; omega
                · have HF := hf.miss hx he
                  have h3 : (x.toList == y.toList) = false := by rw [Nm.str_eq, decide_eq_false he]
                  clear hf hc1 hc3 hx hy he
                  go_wp2
                  go_quiet (fail)
                  go_wp2
                  go_roundw
                  case rel => exact ⟨m + 1, false, by go_num, rfl, by omega, HF, _, rfl⟩
                  case measure => simp [intOf]; omega
            · have hfb : fb = true := hf.all (by omega) ((HMEM.out y).1 (List.mem_of_getElem? hy))
              subst hfb
              by_cases hk0 : k = 0
              · subst hk0
                clear hf hc1 hc3 hy
                go_wp2
                go_quiet (fail)
                go_wp2
                go_roundw
                case rel => exact ⟨1, by go_num, by omega, _, rfl⟩
                case measure => simp [intOf]; omega
              · obtain ⟨y', hy'⟩ : ∃ y', zs[k - 1]? = some y' := ⟨_, List.getElem?_eq_getElem (by omega)⟩
                have HC : Hid (Lib.compareBytes y'.data.toList y.data.toList = -1) := HASC.out (k - 1) y' y hy' (by rw [show k - 1 + 1 = k from by omega]; exact hy)
                obtain ⟨r, hr⟩ : ∃ r, r = k - 1 := ⟨_, rfl⟩
                rw [← hr] at hy'
                have dy' := hc3 r y' hy'
                have hrn : r < zs.length := by omega
                have hkp : 0 < k := by omega
                have hkd : decide (0 < k) = true := decide_eq_true hkp
                have hki : (0 : Int) < (k : Int) := by omega
                have hw1 : IntKind.i64.wrap ((k : Int) - 1) = (r : Int) := by simp [IntKind.wrap, IntKind.bits, IntKind.signed]; omega
                have HR : Hid (r = k - 1) := hr
                have hcc : Lib.compareBytes y'.data.toList y.data.toList = -1 := HC.out
                have dW : (w2.drewN n').cell? ⟨b3, o3 + k, none⟩ = some (.string y) := dy
                have dW' : (w2.drewN n').cell? ⟨b3, o3 + r, none⟩ = some (.string y') := dy'
                clear hr
                clear hf hc1 hc3 hy hy' hk0 dy dy' HASC HMEM HR
                obtain ⟨W, hW⟩ : ∃ W, W = w2.drewN n' := ⟨_, rfl⟩
                rw [← hW] at dW dW' ⊢
                have HW : Hid (W = w2.drewN n') := hW
                clear hW
                go_wp2
                go_big_quiet (first | (go_at_call 24; exact Calls.quiet_of_same (cmp_is HC _)))
                go_wp2
                go_roundw
                case rel => exact ⟨k + 1, by go_num, by omega, n' + nq, by rw [HW.out, World.drewN_drewN]⟩
                case measure => simp [intOf]; omega
        · go_wp2
          clear hk hlt
          go_loopw [14] (fun iv wr => ∃ k : Nat, iv = .int .i64 k ∧ k ≤ xs.length ∧ ∃ n, wr = w2.drewN n) (fun iv _ => xs.length - (intOf iv).toNat)
          case atStart => exact ⟨0, rfl, Nat.zero_le _, _, rfl⟩
          case round =>
            obtain ⟨q, rfl, hq, n4, rfl⟩ := hrel
            by_cases hlt : q < xs.length
            · obtain ⟨y, hy⟩ : ∃ y, xs[q]? = some y := ⟨_, List.getElem?_eq_getElem hlt⟩
              have dy := hc1 q y hy
              go_wp2
              go_loopw [15, 16] (fun fv iv wr => ∃ (m : Nat) (fb : Bool), iv = .int .i64 m ∧ fv = .bool fb ∧ m ≤ zs.length ∧ Found zs y m fb ∧ ∃ n, wr = w2.drewN n) (fun _ iv _ => zs.length - (intOf iv).toNat)
              case atStart => exact ⟨0, false, rfl, rfl, Nat.zero_le _, Found.start _ _, _, rfl⟩
              case round =>
                obtain ⟨m, fb, rfl, rfl, hm, hf, n', rfl⟩ := hrel
                by_cases hml : m < zs.length
                · obtain ⟨x, hx⟩ : ∃ x, zs[m]? = some x := ⟨_, List.getElem?_eq_getElem hml⟩
                  have dx := hc3 m x hx
                  cases fb with
                  | true =>
                    have HF := hf.on
                    clear hf hc1 hc3 hx hy
                    go_wp2
                    go_quiet (fail)
                    go_wp2
                    go_roundw
                    case rel => exact ⟨m + 1, true, by go_num, rfl, by omega, HF, _, rfl⟩
                    case measure => simp [intOf]; omega
                  | false =>
                    by_cases he : x = y
                    · subst he
                      have HF := Found.hit hx
                      have h3 : (x.toList == x.toList) = true := beq_self_eq_true _
                      clear hf hc1 hc3 hx hy
                      go_wp2
                      go_quiet (fail)
                      go_wp2
                      go_roundw
                      case rel => exact ⟨m + 1, true, by go_num, rfl, by omega, HF, _, rfl⟩
                      case measure => simp [intOf]; omega
                    · have HF := hf.miss hx he
                      have h3 : (x.toList == y.toList) = false := by rw [Nm.str_eq, decide_eq_false he]
                      clear hf hc1 hc3 hx hy he
                      go_wp2
                      go_quiet (fail)
                      go_wp2
                      go_roundw
                      case rel => exact ⟨m + 1, false, by go_num, rfl, by omega, HF, _, rfl⟩
                      case measure => simp [intOf]; omega
                · have hfb : fb = true := hf.all (by omega) ((HMEM.out y).2 (List.mem_of_getElem? hy))
                  subst hfb
                  clear hf hc1 hc3 hy
                  go_wp2
                  go_roundw
                  case rel => exact ⟨q + 1, by go_num, by omega, _, rfl⟩
                  case measure => simp [intOf]; omega
            · clear hc1 hc3
              go_wp2_with (go_at_call 22; refine (alive_any _).mono ?_; rintro e w9 ⟨rfl, hb9⟩)
              go_ret
              exact ⟨rfl, btr (bdN hB2 _) hb9⟩
end Go.Proofs.YtcccmbiocknknaaDoor
