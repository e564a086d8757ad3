/- What the document's Join and Same come to. -/
import Derived.Lib.AppendStr
import Derived.Laws.IdiomStrings
import Derived.Test.YtfjcnncpmhfbnaaDoorOwnW
import Derived.Test.YtfjcnncpmhfbnaaDoorLexJoin
namespace Go.Proofs.YtfjcnncpmhfbnaaDoor
open Go.RowKit
set_option linter.unusedVariables false

theorem Tv.joined_nil : Tv.joined [] = [] := rfl
theorem Tv.joined_on (l : List Tv) (x : Tv) : Tv.joined (l ++ [x]) = if l = [] then x.text.data.toList else Tv.joined l ++ ([32] ++ x.text.data.toList) := by
  unfold Tv.joined
  cases l with
  | nil => rw [if_pos rfl]; simp [Lib.join_one]
  | cons a r =>
    rw [if_neg (by simp), List.cons_append, List.map_cons, List.map_cons, Lib.join_cons, Lib.join_cons]
    unfold Lib.joinTail
    rw [List.map_append, List.map_append, List.flatten_append, List.append_assoc]
    simp
theorem Tv.joined_mono (xs : List Tv) : ∀ k, (Tv.joined (xs.take k)).length ≤ (Tv.joined (xs.take (k + 1))).length := by
  intro k
  rw [List.take_add_one]
  cases h : xs[k]? with
  | none => simp
  | some x =>
    show _ ≤ (Tv.joined (xs.take k ++ [x])).length
    rw [Tv.joined_on]
    split
    · next h0 => rw [h0]; simp [Tv.joined_nil]
    · rw [List.length_append]; omega
theorem Tv.joined_le (xs : List Tv) : ∀ d k, k + d = xs.length → (Tv.joined (xs.take k)).length ≤ (Tv.joined xs).length
  | 0, k, h => by rw [List.take_of_length_le (by omega)]; exact Nat.le_refl _
  | d + 1, k, h => Nat.le_trans (Tv.joined_mono xs k) (Tv.joined_le xs d (k + 1) (by omega))
abbrev bv (b : UInt8) : Value := .int .u8 (b.toNat : Int)
theorem info_byte : (Tryd.prog.info? 5).map (fun i => (i.zero, i.size, i.bytes)) = some (some (.int .u8 0), 1, 1) := by kernel_rfl
theorem strCells_bv (s : ByteArray) : Lib.strCells s = s.data.toList.map bv := rfl
theorem conv_nil (w : World) : (convert 51 9 (.slice none 0 0)).run Tryd.prog w = .ok (.string ⟨#[]⟩) w := by kernel_rfl

set_option maxRecDepth 100000 in
set_option maxHeartbeats 2000000 in
theorem rfJoin_any (v : Value) (xs : List Tv) (w : World) (h : TvAt w v xs) (hn : xs.length ≤ 1048576) (hj : (Tv.joined xs).length ≤ 4194304) :
    Calls Tryd.prog 15 #[v] w fun e w' => e = .returned (.string ⟨(Tv.joined xs).toArray⟩) ∧ Below w.heap.size w w' := by
  obtain ⟨i0, hi, hz0, hz1, hz2⟩ := info_parts info_byte
  obtain ⟨va, vc, hvf⟩ := h.form
  have hcells : Hid (∀ i t, xs[i]? = some t → ∃ g o c, v = .slice (some ⟨g, o, none⟩) xs.length c ∧ g < w.heap.size ∧ w.cell? ⟨g, o + i * 4 + 1, none⟩ = some (.string t.text)) := by
    intro i t ht
    rcases h with ⟨rfl, -⟩ | ⟨g, o, c, hv, hg, hc⟩
    · cases i <;> cases ht
    · obtain ⟨h0, h1, h2, h3⟩ := hc i t ht
      exact ⟨g, o, c, hv, hg, h1⟩
  have HJ : Hid (∀ k, k ≤ xs.length → (Tv.joined (xs.take k)).length ≤ 4194304) := fun k hk => Nat.le_trans (Tv.joined_le xs (xs.length - k) k (by omega)) hj
  subst hvf
  clear h hj
  go_enter Tryd.func15, Tryd.ntmps15
  go_wp2
  go_loopw [3, 4] (fun lv iv wr => ∃ (k : Nat) (J : List UInt8), iv = .int .i64 k ∧ k ≤ xs.length ∧ Hid (J = Tv.joined (xs.take k)) ∧ wr.ownsRow w.heap.size 5 1 lv J.length (J.map bv) ∧ Below w.heap.size w wr) (fun _ iv _ => xs.length - (intOf iv).toNat)
  case atStart => exact ⟨0, [], rfl, Nat.zero_le _, rfl, World.ownsRow_nil _ _ _ _, Below.refl _ _⟩
  case round =>
    obtain ⟨k, J, rfl, hk, hJ, hrow, hB⟩ := hrel
    obtain ⟨g2, cap2, hform⟩ := own_form hrow
    subst hform
    by_cases hlt : k < xs.length
    · obtain ⟨x, hx⟩ : ∃ x, xs[k]? = some x := ⟨_, List.getElem?_eq_getElem hlt⟩
      obtain ⟨g, o, c, hv, hg, x1⟩ := hcells.out k x hx
      injection hv with e1 _ e2
      subst e1; subst e2
      have x1w := x1
      rw [← hB.cell hg] at x1
      have hJ1 := HJ.out (k + 1) (by omega)
      have hstep : Tv.joined (xs.take (k + 1)) = if xs.take k = [] then x.text.data.toList else J ++ ([32] ++ x.text.data.toList) := by
        rw [List.take_add_one, hx, hJ.out]; exact Tv.joined_on _ _
      have htl := Nm.len x.text
      rw [hstep] at hJ1
      by_cases hk0 : k = 0
      · subst hk0
        rw [if_pos (show xs.take 0 = [] from rfl)] at hstep hJ1
        have hJ0 : J = [] := hJ.out
        subst hJ0
        simp only [List.length_nil, List.map_nil] at hrow
        have hts : x.text.size ≤ 4194304 := by rw [htl] at hJ1; exact hJ1
        have HX : Hid (x.text.data.toList = Tv.joined (xs.take (0 + 1))) := hstep.symm
        clear hcells HJ hx hstep hJ
        go_wp2_with (at_builtin; refine Lib.wpList_append_own_string _ rfl _ _ 51 9 rfl w.heap.size 5 i0 Tryd.underlying51 Tryd.underlying9 hi hz0 hz1 hz2 _ _ _ rfl hrow x.text rfl (by unfold maxLen; omega) (by omega) hB.size ?_; intro v' w3 hown' hgrow _)
        go_roundw
        case rel => exact ⟨1, x.text.data.toList, by go_num, by omega, HX, by rw [htl]; simpa [strCells_bv] using hown', hB.grown hgrow hB.size (lxBlock hrow)⟩
        case measure => simp [intOf]; omega
      · have hne : ¬ xs.take k = [] := fun e => by have := congrArg List.length e; rw [List.length_take, List.length_nil] at this; omega
        rw [if_neg hne] at hstep hJ1
        have HX : Hid (J ++ [32] ++ x.text.data.toList = Tv.joined (xs.take (k + 1))) := by show _ = _; rw [hstep, List.append_assoc]
        have hjl : J.length + 1 + x.text.size ≤ 4194304 := by rw [List.length_append, List.length_append, htl] at hJ1; simp at hJ1; omega
        have hk1 : (0 : Int) < (k : Int) := by omega
        clear hcells HJ hx hstep hJ hne hJ1
        go_wp2_with (first
          | (at_builtin; refine wpList_append_own _ rfl _ _ 51 rfl w.heap.size 5 i0 (.int .u8 0) 1 1 Tryd.underlying51 hi hz0 hz1 hz2 rfl (by decide) _ _ _ rfl (hrow.alloc _) ⟨wr.heap.size, 0, none⟩ 1 1 [.int .u8 32] rfl rfl (cell_one_new _ _ _) (by simp [Value.oneCell']) (by unfold maxLen; omega) (by omega) (by have := hB.size; simp; omega) ?_; intro v2 w2 hown2 hgrow2 _; have hB2 : Below w.heap.size w w2 := (lxBa hB _).grown hgrow2 (by have := hB.size; simp; omega) (lxBlock hrow); have x2 : w2.cell? ⟨g, o + k * 4 + 1, none⟩ = some (.string x.text) := (hB2.cell hg).trans x1w; obtain ⟨g3, cap3, hf3⟩ := own_form hown2; subst hf3)
          | (at_builtin; refine Lib.wpList_append_own_string _ rfl _ _ 51 9 rfl w.heap.size 5 i0 Tryd.underlying51 Tryd.underlying9 hi hz0 hz1 hz2 _ _ _ rfl hown2 x.text rfl (by unfold maxLen; omega) (by omega) hB2.size ?_; intro v' w3 hown' hgrow _))
        go_roundw
        case rel => exact ⟨k + 1, J ++ [32] ++ x.text.data.toList, by go_num, by omega, HX, by rw [List.length_append, List.length_append, htl, List.map_append, List.map_append]; exact hown', hB2.grown hgrow hB2.size (lxBlock hown2)⟩
        case measure => simp [intOf]; omega
    · have HX : Hid (J = Tv.joined xs) := by have := hJ.out; rwa [List.take_of_length_le (by omega)] at this
      clear hcells HJ hJ
      rcases hrow.2 with ⟨hv, h0⟩ | ⟨G, cap, cur, hv, hb, hg, hle, rest⟩
      · have hJ0 : J = [] := List.eq_nil_of_length_eq_zero h0
        subst hJ0
        obtain ⟨rfl, rfl⟩ : g2 = none ∧ cap2 = 0 := by injection hv with e1 e2 e3; exact ⟨e1, e3⟩
        have hcv := fun w => conv_nil w
        go_wp2
        go_ret
        exact ⟨by rw [← HX.out]; rfl, hB⟩
      · obtain ⟨rfl, rfl⟩ : g2 = some ⟨G, 0, none⟩ ∧ cap2 = cap := by injection hv with e1 e2 e3; exact ⟨e1, e3⟩
        have hcv := run_convert_bytes_back (P := Tryd.prog) wr 51 9 5 ⟨G, 0, none⟩ cap2 J Tryd.underlying51 Tryd.underlying5 Tryd.underlying9 (fun j hj => by
          have hc := hrow.cellAt j (by simpa using hj)
          rw [List.getElem?_map, List.getElem?_eq_getElem hj] at hc
          rw [show (⟨G, 0, none⟩ : Addr).add j = ⟨G, j, none⟩ by unfold Addr.add; split <;> simp_all]
          exact hc)
        clear rest hg hle hb hv
        go_wp2
        go_ret
        exact ⟨by rw [← HX.out]; rfl, hB⟩

theorem TvAt.drewN {w : World} {v : Value} {ts : List Tv} (h : TvAt w v ts) (n : Nat) : TvAt (w.drewN n) v ts := h.below (lxBd (Below.refl _ _) n) (Nat.le_refl _)

set_option maxRecDepth 100000 in
set_option maxHeartbeats 4000000 in
theorem rfSame_any (v1 v2 : Value) (xs ys : List Tv) (w : World) (h1 : TvAt w v1 xs) (h2 : TvAt w v2 ys) (hx : xs.length ≤ 1048576) (hy : ys.length ≤ 1048576) :
    Calls Tryd.prog 17 #[v1, v2] w fun e w' => e = .returned (.bool (Tv.same xs ys)) ∧ Drawn w w' := by
  by_cases hl : xs.length = ys.length
  · by_cases h0 : ys = []
    · subst h0
      obtain rfl : xs = [] := List.eq_nil_of_length_eq_zero (by simpa using hl)
      obtain ⟨a1, c1, rfl⟩ := h1.form
      obtain ⟨a2, c2, rfl⟩ := h2.form
      clear h1 h2
      go_enter Tryd.func17, Tryd.ntmps17
      go_wp2
      go_loopw [5] (fun v wr => v = .int .i64 0 ∧ wr = w) (fun _ _ => 0)
      case atStart => exact ⟨rfl, rfl⟩
      case round =>
        obtain ⟨rfl, rfl⟩ := hrel
        go_wp2
        go_ret
        exact ⟨ret_bool Tv.same_nil.symm, Drawn.refl _⟩
    · have h0x : ¬ xs = [] := fun e => h0 (List.eq_nil_of_length_eq_zero (by rw [← hl, e]; rfl))
      obtain ⟨g1, o1, c1, rfl, hg1, k1⟩ := h1.resolve_left (fun h => h0x h.1)
      obtain ⟨g2, o2, c2, rfl, hg2, k2⟩ := h2.resolve_left (fun h => h0 h.1)
      have HL : Hid (xs.length = ys.length) := hl
      have hw2 : ys.length = xs.length := hl.symm
      have K1 : Hid (∀ i t, xs[i]? = some t → w.cell? ⟨g1, o1 + i * 4, none⟩ = some (.int .i64 t.kind) ∧ w.cell? ⟨g1, o1 + i * 4 + 1, none⟩ = some (.string t.text) ∧ w.cell? ⟨g1, o1 + i * 4 + 2, none⟩ = some (.int .i64 t.n) ∧ w.cell? ⟨g1, o1 + i * 4 + 3, none⟩ = some (.int .i64 t.place)) := k1
      have K2 : Hid (∀ i t, ys[i]? = some t → w.cell? ⟨g2, o2 + i * 4, none⟩ = some (.int .i64 t.kind) ∧ w.cell? ⟨g2, o2 + i * 4 + 1, none⟩ = some (.string t.text) ∧ w.cell? ⟨g2, o2 + i * 4 + 2, none⟩ = some (.int .i64 t.n) ∧ w.cell? ⟨g2, o2 + i * 4 + 3, none⟩ = some (.int .i64 t.place)) := k2
      rw [hw2]
      clear h1 h2 hl h0 h0x hy hw2 k1 k2
      go_enter Tryd.func17, Tryd.ntmps17
      go_wp2
      go_loopw [5] (fun v wr => ∃ k : Nat, v = .int .i64 k ∧ k ≤ xs.length ∧ Hid (Tv.same xs ys = Tv.same (xs.drop k) (ys.drop k)) ∧ Drawn w wr) (fun v _ => xs.length - (intOf v).toNat)
      case atStart => exact ⟨0, rfl, Nat.zero_le _, rfl, Drawn.refl _⟩
      case round =>
        obtain ⟨k, rfl, hk, hH, hD⟩ := hrel
        by_cases hlt : k < xs.length
        · obtain ⟨x, hxk⟩ : ∃ x, xs[k]? = some x := ⟨_, List.getElem?_eq_getElem hlt⟩
          obtain ⟨y, hyk⟩ : ∃ y, ys[k]? = some y := ⟨_, List.getElem?_eq_getElem (by rw [← HL.out]; exact hlt)⟩
          have hH2 := hH.out
          rw [Tv.same_at hxk hyk] at hH2
          have hBr : Below w.heap.size w wr := by obtain ⟨q, rfl⟩ := hD; exact lxBd (Below.refl _ _) _
          obtain ⟨x0, x1, x2, x3⟩ := K1.out k x hxk
          obtain ⟨y0, y1, y2, y3⟩ := K2.out k y hyk
          rw [← hBr.cell hg1] at x0 x1 x2
          rw [← hBr.cell hg2] at y0 y1 y2
          obtain ⟨a1, a2, a3, a4⟩ := x
          obtain ⟨b1, b2, b3, b4⟩ := y
          simp only at x0 x1 x2 y0 y1 y2
          have hE : Tv.eq ⟨a1, a2, a3, a4⟩ ⟨b1, b2, b3, b4⟩ = (decide (a1 = b1) && decide (a2 = b2) && decide (a3 = b3)) := by
            unfold Tv.eq Tv.core
            rw [Bool.eq_iff_iff]; simp [and_assoc]
          rw [hE] at hH2
          have hs := lxStr_eq a2 b2
          clear hH hxk hyk K1 K2 x3 y3 hE hBr
          by_cases q1 : a1 = b1
          · by_cases q2 : a2 = b2
            · by_cases q3 : a3 = b3
              · subst q1; subst q2; subst q3
                have HX : Hid (Tv.same xs ys = Tv.same (xs.drop (k + 1)) (ys.drop (k + 1))) := by show _ = _; rw [hH2]; simp
                clear hH2 hs
                go_wp2
                go_big_quiet (fail)
                go_wp2
                go_roundw
                case rel => exact ⟨k + 1, by go_num, by omega, HX, hD.on _⟩
                case measure => simp [intOf]; omega
              · subst q1; subst q2
                have HX : Hid (Tv.same xs ys = false) := by show _ = _; rw [hH2]; simp [q3]
                have q4 : (a3 != b3) = true := by rw [bne_iff_ne]; exact q3
                have q5 : (a3 == b3) = false := by rw [beq_eq_false_iff_ne]; exact q3
                clear hH2 hs q3
                go_wp2
                go_big_quiet (fail)
                go_wp2
                go_ret
                exact ⟨ret_bool HX.out.symm, hD.on _⟩
            · subst q1
              rw [decide_eq_false q2] at hs
              have hs2 : (a2.toList != b2.toList) = true := by simp only [bne, hs]; rfl
              have HX : Hid (Tv.same xs ys = false) := by show _ = _; rw [hH2]; simp [q2]
              clear hH2 q2
              go_wp2
              go_big_quiet (fail)
              go_wp2
              go_ret
              exact ⟨ret_bool HX.out.symm, hD.on _⟩
          · have HX : Hid (Tv.same xs ys = false) := by show _ = _; rw [hH2]; simp [q1]
            have q4 : (a1 != b1) = true := by rw [bne_iff_ne]; exact q1
            have q5 : (a1 == b1) = false := by rw [beq_eq_false_iff_ne]; exact q1
            clear hH2 hs q1
            go_wp2
            go_big_quiet (fail)
            go_wp2
            go_ret
            exact ⟨ret_bool HX.out.symm, hD.on _⟩
        · have HX : Hid (Tv.same xs ys = true) := by
            show _ = _
            rw [hH.out, List.drop_eq_nil_of_le (by omega), List.drop_eq_nil_of_le (by have := HL.out; omega)]; exact Tv.same_nil
          clear hH K1 K2
          go_wp2
          go_ret
          exact ⟨ret_bool HX.out.symm, hD⟩
  · have H : Hid (Tv.same xs ys = false) := Tv.same_len hl
    obtain ⟨a1, c1, rfl⟩ := h1.form
    obtain ⟨a2, c2, rfl⟩ := h2.form
    have hl2 : ¬ ((xs.length : Int) = (ys.length : Int)) := by omega
    clear h1 h2 hl
    go_enter Tryd.func17, Tryd.ntmps17
    go_wp2
    go_ret
    exact ⟨ret_bool H.out.symm, Drawn.refl _⟩
end Go.Proofs.YtfjcnncpmhfbnaaDoor
