/- TypesPutting: the walk. -/
import Derived.Deep.Cut
import Derived.Deep.DeepCutAuto
import Derived.Deep.RegionHeld
import Derived.Test.YtbdohoebpaiecaaDoorTpPg
import Derived.Test.YtbdohoebpaiecaaDoorLwTwice
namespace Go.Proofs.YtbdohoebpaiecaaDoor
open Go.RowKit
set_option linter.unusedVariables false
set_option linter.unusedSimpArgs false

theorem hid {p : Prop} (h : p) : Hid p := h
theorem Ls.len {w : World} {K : Nat → Prop} {v : Value} {l : List Int} (h : Ls w K v l) : l.length ≤ 9223372036854775807 := by
  obtain ⟨_, _, _, h⟩ := h.form; unfold maxLen at h; omega
theorem Ls.arr {w : World} {p : Nat} {E : TypeId} {x : Int} (h : Arr w p E [.int .i64 x]) : Ls w Any (.slice (some ⟨p, 0, none⟩) 1 1) [x] := by
  refine .inl ⟨p, 0, 1, rfl, trivial, Nat.le_refl _, by simp [maxLen], fun j y hy => ?_⟩
  rw [h.cell, Nat.zero_add]
  match j, hy with
  | 0, hy => simpa using hy
theorem TAtL.arr {w : World} {p n : Nat} {E : TypeId} {vs : List Value} {x : Tp} (h : Arr w p E vs) (hx : TAt w Any n vs x) : TAtL w Any n (.slice (some ⟨p, 0, none⟩) 1 1) [x] := by
  refine .inl ⟨p, 0, 1, rfl, trivial, Nat.le_refl _, by simp [maxLen], fun i y hy => ?_⟩
  match i, hy with
  | 0, hy =>
    obtain rfl : x = y := by simpa using hy
    exact ⟨vs, fun j z hz => by rw [h.cell]; simpa using hz, hx⟩
theorem keeps3 (w : World) (p : Nat) (a b c : Value) : Keeps (fun x => x ≠ p) w (((w.setCell ⟨p, 0, none⟩ a).setCell ⟨p, 1, none⟩ b).setCell ⟨p, 2, none⟩ c) := fun x o v hx hv => by
  have h : ∀ (w : World) (j : Nat) (u : Value), (w.setCell ⟨p, j, none⟩ u).cell? ⟨x, o, none⟩ = w.cell? ⟨x, o, none⟩ := fun w j u => by
    unfold World.cell?
    rw [Below.heap_setCell _ _ _ _ (by exact hx)]
  rw [h, h, h]; exact hv

mutual
theorem Tp.cnt_put (n : Int) (u : Tp) : ∀ t : Tp, t.right = true → t.cnt ≤ (Tp.put 6 [n] [u] t).cnt
  | .mk k y ks, h => by
    rw [Tp.right, Bool.and_eq_true] at h
    have ih := Tp.cntL_put n u ks h.2
    rw [Tp.put, Tp.by_one]
    have hu : 1 ≤ u.cnt := by cases u; rw [Tp.cnt]; omega
    by_cases hk : k = 6
    · subst hk
      have h0 : ks = [] := List.eq_nil_of_length_eq_zero (Tp.own_leaf h.1)
      subst h0
      rw [if_pos rfl]
      by_cases hn : n = y
      · rw [if_pos hn]; simp only [Tp.cnt, Tp.cntL]; omega
      · rw [if_neg hn]; simp only [Tp.cnt, Tp.putL]; omega
    · rw [if_neg hk]; simp only [Tp.cnt]; omega
theorem Tp.cntL_put (n : Int) (u : Tp) : ∀ ts : List Tp, Tp.rightL ts = true → Tp.cntL ts ≤ Tp.cntL (Tp.putL 6 [n] [u] ts)
  | [], _ => by rw [Tp.putL]; exact Nat.le_refl _
  | t :: r, h => by
    rw [Tp.rightL, Bool.and_eq_true] at h
    have h1 := Tp.cnt_put n u t h.1
    have h2 := Tp.cntL_put n u r h.2
    rw [Tp.putL, Tp.cntL, Tp.cntL]; omega
end
set_option maxHeartbeats 8000000 in
set_option maxRecDepth 100000 in
theorem putting_walk (w : World) (hW : Tab w) (n0 n1 : Nat) (us0 us1 : List Value) (t u : Tp) (h0 : TAt w Any n0 us0 t) (h1 : TAt w Any n1 us1 u) (n : Int) (hn : R64 n) (hc0 : t.cnt ≤ 1048576) (hc1 : u.cnt ≤ 1048576) :
    Calls Tryd.prog 8 #[.agg us0.toArray, .agg us1.toArray, .int .i64 n] w fun e w' => e = .returned (.bool true) ∧ Below w.heap.size w w' := by
  obtain ⟨a0, c0, rfl⟩ := h0.form
  obtain ⟨a1, c1, rfl⟩ := h1.form
  have H0 : Hid (TAt w Any n0 [.int .i64 t.k, .int .i64 t.n, .slice a0 t.ks.length c0] t) := h0
  have H1 : Hid (TAt w Any n1 [.int .i64 u.k, .int .i64 u.n, .slice a1 u.ks.length c1] u) := h1
  have HW : Hid (Tab w) := hW
  have HC0 := hid hc0
  have HC1 := hid hc1
  have HN := hid hn
  have hA : Hid (∀ (wz : World), Below w.heap.size w wz → Calls Tryd.prog 26 #[] wz fun e w' => e = .returned (.bool true) ∧ Below wz.heap.size wz w') := fun wz hz => alive_any wz (HW.out.stays hz)
  have hRi : Hid (∀ (wz : World), Below w.heap.size w wz → Calls Tryd.prog 9 #[.agg #[.int .i64 t.k, .int .i64 t.n, .slice a0 t.ks.length c0]] wz fun e w' => e = .returned (.bool t.right) ∧ Below wz.heap.size wz w') := fun wz hz => Right_any wz n0 _ t (H0.out.below hz)
  have hFi : Hid (∀ (wz : World), Below w.heap.size w wz → Calls Tryd.prog 13 #[.agg #[.int .i64 t.k, .int .i64 t.n, .slice a0 t.ks.length c0]] wz fun e w' => e = .returned (.bool (Tp.upto t.cnt).2) ∧ Below wz.heap.size wz w') := fun wz hz => Fits_any wz n0 _ t (H0.out.below hz)
  have X0 : Hid (Arr ((w.alloc (.cells #[.int .i64 t.k, .int .i64 t.n, .slice a0 t.ks.length c0] 24)).alloc (.cells #[.int .i64 u.k, .int .i64 u.n, .slice a1 u.ks.length c1] 24)) w.heap.size 24 [.int .i64 t.k, .int .i64 t.n, .slice a0 t.ks.length c0]) := Arr.stays ⟨heap_alloc_at _ _⟩ (bl_alloc (Below.refl _ _) _)
  have X1 : Hid (Arr ((w.alloc (.cells #[.int .i64 t.k, .int .i64 t.n, .slice a0 t.ks.length c0] 24)).alloc (.cells #[.int .i64 u.k, .int .i64 u.n, .slice a1 u.ks.length c1] 24)) (w.heap.size + 1) 24 [.int .i64 u.k, .int .i64 u.n, .slice a1 u.ks.length c1]) := ⟨by have := heap_alloc_at (w.alloc (.cells #[.int .i64 t.k, .int .i64 t.n, .slice a0 t.ks.length c0] 24)) (.cells #[.int .i64 u.k, .int .i64 u.n, .slice a1 u.ks.length c1] 24); rw [size_alloc] at this; exact this⟩
  have B1 : Hid (Below w.heap.size w ((w.alloc (.cells #[.int .i64 t.k, .int .i64 t.n, .slice a0 t.ks.length c0] 24)).alloc (.cells #[.int .i64 u.k, .int .i64 u.n, .slice a1 u.ks.length c1] 24))) := bl_alloc (bl_alloc (Below.refl _ _) _) _
  clear h0 h1 hW hc0 hc1 hn
  cases hright : t.right with
  | false =>
    rw [hright] at hRi
    clear hright X0 X1 hFi HC0 HC1 HN
    go_enter Tryd.func8, Tryd.ntmps8
    go_wp2_with (first
      | (go_at_call 9; refine (hRi.out _ B1.out).mono ?_; rintro e w2 ⟨rfl, hb2⟩; have B2 : Hid (Below w.heap.size w w2) := bl_tr B1.out hb2; clear hb2)
      | (go_at_call 26; refine (hA.out _ B2.out).mono ?_; rintro e w4 ⟨rfl, hb4⟩))
    go_ret
    exact ⟨rfl, bl_tr B2.out hb4⟩
  | true =>
    rw [hright] at hRi
    have HRT := hid hright
    clear hright
    have hself : Tp.repl 6 [n] [.mk 6 n []] t = if 1000 < t.cnt then (Tp.zero, 3) else (t, 0) := by
      unfold Tp.repl; rw [if_neg (by simp), Tp.put_self n t HRT.out]
    obtain ⟨ra, qa, hra⟩ : ∃ ra qa, Tp.repl 6 [n] [.mk 6 n []] t = (ra, qa) := ⟨_, _, rfl⟩
    have HR1 := hid hra
    have HQ : Hid ((if 1000 < t.cnt then (Tp.zero, (3 : Int)) else (t, 0)) = (ra, qa)) := hself.symm.trans hra
    clear hra hself
    go_enter Tryd.func8, Tryd.ntmps8
    go_wp2_with (go_at_call 9; refine (hRi.out _ B1.out).mono ?_; rintro e W1 ⟨rfl, hb2⟩)
    have X0 := hid (X0.out.stays hb2)
    have X1 := hid (X1.out.stays hb2)
    have BW1 := hid (bl_tr B1.out hb2)
    have g0 : Hid (∀ wz, Below W1.heap.size W1 wz → ∀ j, wz.cell? ⟨w.heap.size, j, none⟩ = [.int .i64 t.k, .int .i64 t.n, .slice a0 t.ks.length c0][j]?) := fun wz hz j => (X0.out.stays hz).cell j
    have hP3 : Hid (∀ (wz : World) (pa pb : Nat), Below W1.heap.size W1 wz → Arr wz pa 3 [.int .i64 n] → Arr wz pb 24 [.int .i64 6, .int .i64 n, .slice none 0 0] → Calls Tryd.prog 31 #[.agg #[.int .i64 t.k, .int .i64 t.n, .slice a0 t.ks.length c0], .int .i64 6, .slice (some ⟨pa, 0, none⟩) 1 1, .slice (some ⟨pb, 0, none⟩) 1 1] wz fun e w' => ∃ vs' n', e = .returned (.tuple #[.agg vs'.toArray, .int .i64 qa]) ∧ TAt w' (fun b => wz.heap.size ≤ b) n' vs' ra ∧ Below wz.heap.size wz w') := by
      intro wz pa pb hz ha hb
      have := Replace_any wz n0 1 _ t 6 _ _ [n] [.mk 6 n []] (H0.out.below (bl_tr BW1.out hz)) (Ls.arr ha) (TAtL.arr hb (TAt.leaf wz Any 6 n ⟨by decide, by decide⟩ HN.out))
      rw [HR1.out] at this
      exact this
    clear hb2 B1 hRi
    go_cut [7, 8] (fun u7 u8 wx => ∃ (p7 n7 : Nat) (a7 : Option Addr) (c7 : Nat), u7 = .pointer (some ⟨p7, 0, none⟩) ∧ u8 = .int .i64 qa ∧ Hid (Arr wx p7 24 [.int .i64 ra.k, .int .i64 ra.n, .slice a7 ra.ks.length c7]) ∧ Hid (TAt wx Any n7 [.int .i64 ra.k, .int .i64 ra.n, .slice a7 ra.ks.length c7] ra) ∧ Hid (Below W1.heap.size W1 wx))
    case first =>
      refine wp_region_held_drew (S := fun wz => Below W1.heap.size W1 wz) (by kernel_rfl) ((Below.refl _ _).drew) (fun hS => ?_)
      generalize W1.drew = wc0 at hS   ⊢
      refine wpAnyH_take (i := 0) (v := ?_) rfl (by kernel_rfl) (by kernel_rfl) (by kernel_rfl) (fun _ _ _ h => h) (Or.inl ⟨by rfl, ?_⟩) hS ?_
      rotate_left
      · intro wz hz; have yy0 := g0.out wz hz; go_simp; try with_reducible rfl
      try simp only [Act.put, List.setIfInBounds_toArray, List.set_cons_zero, List.set_cons_succ, List.getElem_toArray, List.getElem_cons_succ, List.getElem_cons_zero]
      refine wpAnyH_take (i := 1) (v := ?_) rfl (by kernel_rfl) (by kernel_rfl) (by kernel_rfl) (fun _ _ _ h => h) (Or.inl ⟨by rfl, ?_⟩) hS ?_
      rotate_left
      · intro wz hz; go_simp; try with_reducible rfl
      try simp only [Act.put, List.setIfInBounds_toArray, List.set_cons_zero, List.set_cons_succ, List.getElem_toArray, List.getElem_cons_succ, List.getElem_cons_zero]
      refine wpAnyH_take (i := 3) (v := ?_) rfl (by kernel_rfl) (by kernel_rfl) (by kernel_rfl) (fun _ _ _ h => h) (Or.inl ⟨by rfl, ?_⟩) hS ?_
      rotate_left
      · intro wz hz; go_simp; try with_reducible rfl
      try simp only [Act.put, List.setIfInBounds_toArray, List.set_cons_zero, List.set_cons_succ, List.getElem_toArray, List.getElem_cons_succ, List.getElem_cons_zero]
      refine wpAnyH_ready (rs := [2, 4, 10]) (by kernel_rfl) (by simp) (AllReadyH.cons rfl (fun K hK => ?a1_2) (AllReadyH.cons rfl (fun K hK => ?a1_4) (AllReadyH.cons rfl (fun K hK => ?a1_10) AllReadyH.nil)))
      case' a1_2 =>
        go_simp
        have RN : Hid (Arr (wc0.alloc (.cells #[.int .i64 n] 3)) wc0.heap.size 3 [.int .i64 n]) := ⟨heap_alloc_at _ _⟩
        have hbn : Below wc0.heap.size wc0 (wc0.alloc (.cells #[.int .i64 n] 3)) := bl_alloc (Below.refl _ _) _
        have hSn := bl_tr hS hbn
        generalize hwn : wc0.alloc (.cells #[.int .i64 n] 3) = wc1 at RN hSn  ⊢
        generalize hp : wc0.heap.size = pRN at RN   ⊢
        clear hbn hwn hp
        refine hK.out _ _ (hSn) (fun hSn => ?_)
        clear hK K hS
        have hS := hSn
        clear hSn
        try simp only [Act.put, List.setIfInBounds_toArray, List.set_cons_zero, List.set_cons_succ, List.getElem_toArray, List.getElem_cons_succ, List.getElem_cons_zero]
        refine wpAnyH_ready (rs := [4, 10]) (by kernel_rfl) (by simp) (AllReadyH.cons rfl (fun K hK => ?a2_4) (AllReadyH.cons rfl (fun K hK => ?a2_10) AllReadyH.nil))
        case' a2_4 =>
          go_simp
          refine (stamp_any wc1 n).mono ?_
          rintro e wc2 ⟨rfl, hb⟩
          have RN := hid (RN.out.stays hb)
          refine hK.out _ _ (bl_tr hS hb) (fun hSn => ?_)
          clear hK K hS
          have hS := hSn
          clear hSn
          try simp only [Act.put, List.setIfInBounds_toArray, List.set_cons_zero, List.set_cons_succ, List.getElem_toArray, List.getElem_cons_succ, List.getElem_cons_zero]
          clear hb
          refine wpAnyH_ready (rs := [5, 10]) (by kernel_rfl) (by simp) (AllReadyH.cons rfl (fun K hK => ?a3_5) (AllReadyH.cons rfl (fun K hK => ?a3_10) AllReadyH.nil))
          case' a3_5 =>
            go_simp
            have RT : Hid (Arr (wc2.alloc (.cells #[.int .i64 6, .int .i64 n, .slice none 0 0] 24)) wc2.heap.size 24 [.int .i64 6, .int .i64 n, .slice none 0 0]) := ⟨heap_alloc_at _ _⟩
            have hbn : Below wc2.heap.size wc2 (wc2.alloc (.cells #[.int .i64 6, .int .i64 n, .slice none 0 0] 24)) := bl_alloc (Below.refl _ _) _
            have hSn := bl_tr hS hbn
            have RN := hid (RN.out.stays hbn)
            generalize hwn : wc2.alloc (.cells #[.int .i64 6, .int .i64 n, .slice none 0 0] 24) = wc3 at RT hSn RN ⊢
            generalize hp : wc2.heap.size = pRT at RT   ⊢
            clear hbn hwn hp
            refine hK.out _ _ (hSn) (fun hSn => ?_)
            clear hK K hS
            have hS := hSn
            clear hSn
            try simp only [Act.put, List.setIfInBounds_toArray, List.set_cons_zero, List.set_cons_succ, List.getElem_toArray, List.getElem_cons_succ, List.getElem_cons_zero]
            refine wpAnyH_ready (rs := [6, 10]) (by kernel_rfl) (by simp) (AllReadyH.cons rfl (fun K hK => ?a4_6) (AllReadyH.cons rfl (fun K hK => ?a4_10) AllReadyH.nil))
            case' a4_6 =>
              go_simp
              refine (hP3.out wc3 pRN pRT hS RN.out RT.out).mono ?_
              rintro e wc4 ⟨vs6, n6, rfl, hT6, hb⟩
              obtain ⟨a6, c6, rfl⟩ := hT6.form
              have HA : Hid (TAt wc4 (fun b => b < wc4.heap.size) n6 _ ra) := TAt.old hT6
              clear hT6
              have RN := hid (RN.out.stays hb)
              have RT := hid (RT.out.stays hb)
              refine hK.out _ _ (bl_tr hS hb) (fun hSn => ?_)
              clear hK K hS
              have hS := hSn
              clear hSn
              try simp only [Act.put, List.setIfInBounds_toArray, List.set_cons_zero, List.set_cons_succ, List.getElem_toArray, List.getElem_cons_succ, List.getElem_cons_zero]
              clear hb
              refine wpAnyH_take (i := 7) (v := ?_) rfl (by kernel_rfl) (by kernel_rfl) (by kernel_rfl) (fun _ _ _ h => h) (Or.inl ⟨by rfl, ?_⟩) hS ?_
              rotate_left
              · intro wz hz; go_simp; try with_reducible rfl
              try simp only [Act.put, List.setIfInBounds_toArray, List.set_cons_zero, List.set_cons_succ, List.getElem_toArray, List.getElem_cons_succ, List.getElem_cons_zero]
              refine wpAnyH_take (i := 8) (v := ?_) rfl (by kernel_rfl) (by kernel_rfl) (by kernel_rfl) (fun _ _ _ h => h) (Or.inl ⟨by rfl, ?_⟩) hS ?_
              rotate_left
              · intro wz hz; go_simp; try with_reducible rfl
              try simp only [Act.put, List.setIfInBounds_toArray, List.set_cons_zero, List.set_cons_succ, List.getElem_toArray, List.getElem_cons_succ, List.getElem_cons_zero]
              refine wpAnyH_take (i := 9) (v := ?_) rfl (by kernel_rfl) (by kernel_rfl) (by kernel_rfl) (fun _ _ _ h => h) (Or.inl ⟨by rfl, ?_⟩) hS ?_
              rotate_left
              · intro wz hz; go_simp; try with_reducible rfl
              try simp only [Act.put, List.setIfInBounds_toArray, List.set_cons_zero, List.set_cons_succ, List.getElem_toArray, List.getElem_cons_succ, List.getElem_cons_zero]
              refine wpAnyH_ready (rs := [10]) (by kernel_rfl) (by simp) (AllReadyH.cons rfl (fun K hK => ?a5_10) AllReadyH.nil)
              case' a5_10 =>
                go_simp
                have B7 : Hid (Arr (wc4.alloc (.cells #[.int .i64 0, .int .i64 0, .slice none 0 0] 24)) wc4.heap.size 24 [.int .i64 0, .int .i64 0, .slice none 0 0]) := ⟨heap_alloc_at _ _⟩
                have hbn : Below wc4.heap.size wc4 (wc4.alloc (.cells #[.int .i64 0, .int .i64 0, .slice none 0 0] 24)) := bl_alloc (Below.refl _ _) _
                have hSn := bl_tr hS hbn
                have q7 : W1.heap.size ≤ wc4.heap.size := hS.size
                have eRN : ¬ pRN = wc4.heap.size := by have := RN.out.lt; omega
                have eRT : ¬ pRT = wc4.heap.size := by have := RT.out.lt; omega
                have RN := hid (RN.out.stays hbn)
                have RT := hid (RT.out.stays hbn)
                have HA : Hid (TAt (wc4.alloc (.cells #[.int .i64 0, .int .i64 0, .slice none 0 0] 24)) (fun b => b ≠ wc4.heap.size) n6 _ ra) := (HA.out.move (Keeps.refl _ _) (fun b (hb : b < _) => by show b ≠ _; omega)).below hbn
                generalize hwn : wc4.alloc (.cells #[.int .i64 0, .int .i64 0, .slice none 0 0] 24) = wc5 at B7 hSn RN RT HA ⊢
                generalize hp : wc4.heap.size = pB7 at B7 HA q7 eRN eRT ⊢
                clear hbn hwn hp
                refine hK.out _ _ (hSn) (fun hSn => ?_)
                clear hK K hS
                have hS := hSn
                clear hSn
                try simp only [Act.put, List.setIfInBounds_toArray, List.set_cons_zero, List.set_cons_succ, List.getElem_toArray, List.getElem_cons_succ, List.getElem_cons_zero]
                refine wpAnyH_ready (rs := [11]) (by kernel_rfl) (by simp) (AllReadyH.cons rfl (fun K hK => ?a6_11) AllReadyH.nil)
                case' a6_11 =>
                  go_simp
                  have cc := B7.out.cell
                  have cf := B7.out.frozen
                  go_simp
                  have HA : Hid (TAt (((wc5.setCell ⟨pB7, 0, none⟩ (.int .i64 ra.k)).setCell ⟨pB7, 1, none⟩ (.int .i64 ra.n)).setCell ⟨pB7, 2, none⟩ (.slice a6 ra.ks.length c6)) Any n6 _ ra) := HA.out.move (keeps3 wc5 pB7 _ _ _) (fun _ _ => trivial)
                  have B7 := hid (((B7.out.set 0 (.int .i64 ra.k)).set 1 (.int .i64 ra.n)).set 2 (.slice a6 ra.ks.length c6))
                  simp only [List.set_cons_zero, List.set_cons_succ] at B7
                  have hSn : Below W1.heap.size W1 (((wc5.setCell ⟨pB7, 0, none⟩ (.int .i64 ra.k)).setCell ⟨pB7, 1, none⟩ (.int .i64 ra.n)).setCell ⟨pB7, 2, none⟩ (.slice a6 ra.ks.length c6)) := (bl_set ⟨pB7, 2, none⟩ (.slice a6 ra.ks.length c6) (bl_set ⟨pB7, 1, none⟩ (.int .i64 ra.n) (bl_set ⟨pB7, 0, none⟩ (.int .i64 ra.k) hS q7) q7) q7)
                  generalize (((wc5.setCell ⟨pB7, 0, none⟩ (.int .i64 ra.k)).setCell ⟨pB7, 1, none⟩ (.int .i64 ra.n)).setCell ⟨pB7, 2, none⟩ (.slice a6 ra.ks.length c6)) = wc6 at B7 hSn HA ⊢
                  clear cc cf
                  refine hK.out _ _ (hSn) (fun hSn => ?_)
                  clear hK K hS
                  have hS := hSn
                  clear hSn
                  try simp only [Act.put, List.setIfInBounds_toArray, List.set_cons_zero, List.set_cons_succ, List.getElem_toArray, List.getElem_cons_succ, List.getElem_cons_zero]
                  refine wpAnyH_take (i := 12) (v := ?_) rfl (by kernel_rfl) (by kernel_rfl) (by kernel_rfl) (fun _ _ _ h => h) (Or.inl ⟨by rfl, ?_⟩) hS ?_
                  rotate_left
                  · intro wz hz; go_simp; try with_reducible rfl
                  try simp only [Act.put, List.setIfInBounds_toArray, List.set_cons_zero, List.set_cons_succ, List.getElem_toArray, List.getElem_cons_succ, List.getElem_cons_zero]
                  refine wpAnyH_done (by kernel_rfl) ?_ _
            case' a4_10 =>
              go_simp
              have B7 : Hid (Arr (wc3.alloc (.cells #[.int .i64 0, .int .i64 0, .slice none 0 0] 24)) wc3.heap.size 24 [.int .i64 0, .int .i64 0, .slice none 0 0]) := ⟨heap_alloc_at _ _⟩
              have hbn : Below wc3.heap.size wc3 (wc3.alloc (.cells #[.int .i64 0, .int .i64 0, .slice none 0 0] 24)) := bl_alloc (Below.refl _ _) _
              have hSn := bl_tr hS hbn
              have q7 : W1.heap.size ≤ wc3.heap.size := hS.size
              have eRN : ¬ pRN = wc3.heap.size := by have := RN.out.lt; omega
              have eRT : ¬ pRT = wc3.heap.size := by have := RT.out.lt; omega
              have RN := hid (RN.out.stays hbn)
              have RT := hid (RT.out.stays hbn)
              generalize hwn : wc3.alloc (.cells #[.int .i64 0, .int .i64 0, .slice none 0 0] 24) = wc4 at B7 hSn RN RT ⊢
              generalize hp : wc3.heap.size = pB7 at B7  q7 eRN eRT ⊢
              clear hbn hwn hp
              refine hK.out _ _ (hSn) (fun hSn => ?_)
              clear hK K hS
              have hS := hSn
              clear hSn
              try simp only [Act.put, List.setIfInBounds_toArray, List.set_cons_zero, List.set_cons_succ, List.getElem_toArray, List.getElem_cons_succ, List.getElem_cons_zero]
              refine wpAnyH_ready (rs := [6]) (by kernel_rfl) (by simp) (AllReadyH.cons rfl (fun K hK => ?a7_6) AllReadyH.nil)
              case' a7_6 =>
                go_simp
                refine (hP3.out wc4 pRN pRT hS RN.out RT.out).mono ?_
                rintro e wc5 ⟨vs6, n6, rfl, hT6, hb⟩
                obtain ⟨a6, c6, rfl⟩ := hT6.form
                have HA : Hid (TAt wc5 (fun b => b ≠ pB7) n6 _ ra) := hT6.move (Keeps.refl _ _) (fun b (hb : wc4.heap.size ≤ b) => by have := B7.out.lt; show b ≠ _; omega)
                clear hT6
                have RN := hid (RN.out.stays hb)
                have RT := hid (RT.out.stays hb)
                have B7 := hid (B7.out.stays hb)
                refine hK.out _ _ (bl_tr hS hb) (fun hSn => ?_)
                clear hK K hS
                have hS := hSn
                clear hSn
                try simp only [Act.put, List.setIfInBounds_toArray, List.set_cons_zero, List.set_cons_succ, List.getElem_toArray, List.getElem_cons_succ, List.getElem_cons_zero]
                clear hb
                refine wpAnyH_take (i := 7) (v := ?_) rfl (by kernel_rfl) (by kernel_rfl) (by kernel_rfl) (fun _ _ _ h => h) (Or.inl ⟨by rfl, ?_⟩) hS ?_
                rotate_left
                · intro wz hz; go_simp; try with_reducible rfl
                try simp only [Act.put, List.setIfInBounds_toArray, List.set_cons_zero, List.set_cons_succ, List.getElem_toArray, List.getElem_cons_succ, List.getElem_cons_zero]
                refine wpAnyH_take (i := 8) (v := ?_) rfl (by kernel_rfl) (by kernel_rfl) (by kernel_rfl) (fun _ _ _ h => h) (Or.inl ⟨by rfl, ?_⟩) hS ?_
                rotate_left
                · intro wz hz; go_simp; try with_reducible rfl
                try simp only [Act.put, List.setIfInBounds_toArray, List.set_cons_zero, List.set_cons_succ, List.getElem_toArray, List.getElem_cons_succ, List.getElem_cons_zero]
                refine wpAnyH_take (i := 9) (v := ?_) rfl (by kernel_rfl) (by kernel_rfl) (by kernel_rfl) (fun _ _ _ h => h) (Or.inl ⟨by rfl, ?_⟩) hS ?_
                rotate_left
                · intro wz hz; go_simp; try with_reducible rfl
                try simp only [Act.put, List.setIfInBounds_toArray, List.set_cons_zero, List.set_cons_succ, List.getElem_toArray, List.getElem_cons_succ, List.getElem_cons_zero]
                refine wpAnyH_ready (rs := [11]) (by kernel_rfl) (by simp) (AllReadyH.cons rfl (fun K hK => ?a8_11) AllReadyH.nil)
                case' a8_11 =>
                  go_simp
                  have cc := B7.out.cell
                  have cf := B7.out.frozen
                  go_simp
                  have HA : Hid (TAt (((wc5.setCell ⟨pB7, 0, none⟩ (.int .i64 ra.k)).setCell ⟨pB7, 1, none⟩ (.int .i64 ra.n)).setCell ⟨pB7, 2, none⟩ (.slice a6 ra.ks.length c6)) Any n6 _ ra) := HA.out.move (keeps3 wc5 pB7 _ _ _) (fun _ _ => trivial)
                  have B7 := hid (((B7.out.set 0 (.int .i64 ra.k)).set 1 (.int .i64 ra.n)).set 2 (.slice a6 ra.ks.length c6))
                  simp only [List.set_cons_zero, List.set_cons_succ] at B7
                  have hSn : Below W1.heap.size W1 (((wc5.setCell ⟨pB7, 0, none⟩ (.int .i64 ra.k)).setCell ⟨pB7, 1, none⟩ (.int .i64 ra.n)).setCell ⟨pB7, 2, none⟩ (.slice a6 ra.ks.length c6)) := (bl_set ⟨pB7, 2, none⟩ (.slice a6 ra.ks.length c6) (bl_set ⟨pB7, 1, none⟩ (.int .i64 ra.n) (bl_set ⟨pB7, 0, none⟩ (.int .i64 ra.k) hS q7) q7) q7)
                  generalize (((wc5.setCell ⟨pB7, 0, none⟩ (.int .i64 ra.k)).setCell ⟨pB7, 1, none⟩ (.int .i64 ra.n)).setCell ⟨pB7, 2, none⟩ (.slice a6 ra.ks.length c6)) = wc6 at B7 hSn HA ⊢
                  clear cc cf
                  refine hK.out _ _ (hSn) (fun hSn => ?_)
                  clear hK K hS
                  have hS := hSn
                  clear hSn
                  try simp only [Act.put, List.setIfInBounds_toArray, List.set_cons_zero, List.set_cons_succ, List.getElem_toArray, List.getElem_cons_succ, List.getElem_cons_zero]
                  refine wpAnyH_take (i := 12) (v := ?_) rfl (by kernel_rfl) (by kernel_rfl) (by kernel_rfl) (fun _ _ _ h => h) (Or.inl ⟨by rfl, ?_⟩) hS ?_
                  rotate_left
                  · intro wz hz; go_simp; try with_reducible rfl
                  try simp only [Act.put, List.setIfInBounds_toArray, List.set_cons_zero, List.set_cons_succ, List.getElem_toArray, List.getElem_cons_succ, List.getElem_cons_zero]
                  refine wpAnyH_done (by kernel_rfl) ?_ _
          case' a3_10 =>
            go_simp
            have B7 : Hid (Arr (wc2.alloc (.cells #[.int .i64 0, .int .i64 0, .slice none 0 0] 24)) wc2.heap.size 24 [.int .i64 0, .int .i64 0, .slice none 0 0]) := ⟨heap_alloc_at _ _⟩
            have hbn : Below wc2.heap.size wc2 (wc2.alloc (.cells #[.int .i64 0, .int .i64 0, .slice none 0 0] 24)) := bl_alloc (Below.refl _ _) _
            have hSn := bl_tr hS hbn
            have q7 : W1.heap.size ≤ wc2.heap.size := hS.size
            have eRN : ¬ pRN = wc2.heap.size := by have := RN.out.lt; omega
            have RN := hid (RN.out.stays hbn)
            generalize hwn : wc2.alloc (.cells #[.int .i64 0, .int .i64 0, .slice none 0 0] 24) = wc3 at B7 hSn RN ⊢
            generalize hp : wc2.heap.size = pB7 at B7  q7 eRN ⊢
            clear hbn hwn hp
            refine hK.out _ _ (hSn) (fun hSn => ?_)
            clear hK K hS
            have hS := hSn
            clear hSn
            try simp only [Act.put, List.setIfInBounds_toArray, List.set_cons_zero, List.set_cons_succ, List.getElem_toArray, List.getElem_cons_succ, List.getElem_cons_zero]
            refine wpAnyH_ready (rs := [5]) (by kernel_rfl) (by simp) (AllReadyH.cons rfl (fun K hK => ?a9_5) AllReadyH.nil)
            case' a9_5 =>
              go_simp
              have RT : Hid (Arr (wc3.alloc (.cells #[.int .i64 6, .int .i64 n, .slice none 0 0] 24)) wc3.heap.size 24 [.int .i64 6, .int .i64 n, .slice none 0 0]) := ⟨heap_alloc_at _ _⟩
              have hbn : Below wc3.heap.size wc3 (wc3.alloc (.cells #[.int .i64 6, .int .i64 n, .slice none 0 0] 24)) := bl_alloc (Below.refl _ _) _
              have hSn := bl_tr hS hbn
              have eRT : ¬ wc3.heap.size = pB7 := by have := B7.out.lt; omega
              have RN := hid (RN.out.stays hbn)
              have B7 := hid (B7.out.stays hbn)
              generalize hwn : wc3.alloc (.cells #[.int .i64 6, .int .i64 n, .slice none 0 0] 24) = wc4 at RT hSn RN B7 ⊢
              generalize hp : wc3.heap.size = pRT at RT  eRT ⊢
              clear hbn hwn hp
              refine hK.out _ _ (hSn) (fun hSn => ?_)
              clear hK K hS
              have hS := hSn
              clear hSn
              try simp only [Act.put, List.setIfInBounds_toArray, List.set_cons_zero, List.set_cons_succ, List.getElem_toArray, List.getElem_cons_succ, List.getElem_cons_zero]
              refine wpAnyH_ready (rs := [6]) (by kernel_rfl) (by simp) (AllReadyH.cons rfl (fun K hK => ?a10_6) AllReadyH.nil)
              case' a10_6 =>
                go_simp
                refine (hP3.out wc4 pRN pRT hS RN.out RT.out).mono ?_
                rintro e wc5 ⟨vs6, n6, rfl, hT6, hb⟩
                obtain ⟨a6, c6, rfl⟩ := hT6.form
                have HA : Hid (TAt wc5 (fun b => b ≠ pB7) n6 _ ra) := hT6.move (Keeps.refl _ _) (fun b (hb : wc4.heap.size ≤ b) => by have := B7.out.lt; show b ≠ _; omega)
                clear hT6
                have RN := hid (RN.out.stays hb)
                have B7 := hid (B7.out.stays hb)
                have RT := hid (RT.out.stays hb)
                refine hK.out _ _ (bl_tr hS hb) (fun hSn => ?_)
                clear hK K hS
                have hS := hSn
                clear hSn
                try simp only [Act.put, List.setIfInBounds_toArray, List.set_cons_zero, List.set_cons_succ, List.getElem_toArray, List.getElem_cons_succ, List.getElem_cons_zero]
                clear hb
                refine wpAnyH_take (i := 7) (v := ?_) rfl (by kernel_rfl) (by kernel_rfl) (by kernel_rfl) (fun _ _ _ h => h) (Or.inl ⟨by rfl, ?_⟩) hS ?_
                rotate_left
                · intro wz hz; go_simp; try with_reducible rfl
                try simp only [Act.put, List.setIfInBounds_toArray, List.set_cons_zero, List.set_cons_succ, List.getElem_toArray, List.getElem_cons_succ, List.getElem_cons_zero]
                refine wpAnyH_take (i := 8) (v := ?_) rfl (by kernel_rfl) (by kernel_rfl) (by kernel_rfl) (fun _ _ _ h => h) (Or.inl ⟨by rfl, ?_⟩) hS ?_
                rotate_left
                · intro wz hz; go_simp; try with_reducible rfl
                try simp only [Act.put, List.setIfInBounds_toArray, List.set_cons_zero, List.set_cons_succ, List.getElem_toArray, List.getElem_cons_succ, List.getElem_cons_zero]
                refine wpAnyH_take (i := 9) (v := ?_) rfl (by kernel_rfl) (by kernel_rfl) (by kernel_rfl) (fun _ _ _ h => h) (Or.inl ⟨by rfl, ?_⟩) hS ?_
                rotate_left
                · intro wz hz; go_simp; try with_reducible rfl
                try simp only [Act.put, List.setIfInBounds_toArray, List.set_cons_zero, List.set_cons_succ, List.getElem_toArray, List.getElem_cons_succ, List.getElem_cons_zero]
                refine wpAnyH_ready (rs := [11]) (by kernel_rfl) (by simp) (AllReadyH.cons rfl (fun K hK => ?a11_11) AllReadyH.nil)
                case' a11_11 =>
                  go_simp
                  have cc := B7.out.cell
                  have cf := B7.out.frozen
                  go_simp
                  have HA : Hid (TAt (((wc5.setCell ⟨pB7, 0, none⟩ (.int .i64 ra.k)).setCell ⟨pB7, 1, none⟩ (.int .i64 ra.n)).setCell ⟨pB7, 2, none⟩ (.slice a6 ra.ks.length c6)) Any n6 _ ra) := HA.out.move (keeps3 wc5 pB7 _ _ _) (fun _ _ => trivial)
                  have B7 := hid (((B7.out.set 0 (.int .i64 ra.k)).set 1 (.int .i64 ra.n)).set 2 (.slice a6 ra.ks.length c6))
                  simp only [List.set_cons_zero, List.set_cons_succ] at B7
                  have hSn : Below W1.heap.size W1 (((wc5.setCell ⟨pB7, 0, none⟩ (.int .i64 ra.k)).setCell ⟨pB7, 1, none⟩ (.int .i64 ra.n)).setCell ⟨pB7, 2, none⟩ (.slice a6 ra.ks.length c6)) := (bl_set ⟨pB7, 2, none⟩ (.slice a6 ra.ks.length c6) (bl_set ⟨pB7, 1, none⟩ (.int .i64 ra.n) (bl_set ⟨pB7, 0, none⟩ (.int .i64 ra.k) hS q7) q7) q7)
                  generalize (((wc5.setCell ⟨pB7, 0, none⟩ (.int .i64 ra.k)).setCell ⟨pB7, 1, none⟩ (.int .i64 ra.n)).setCell ⟨pB7, 2, none⟩ (.slice a6 ra.ks.length c6)) = wc6 at B7 hSn HA ⊢
                  clear cc cf
                  refine hK.out _ _ (hSn) (fun hSn => ?_)
                  clear hK K hS
                  have hS := hSn
                  clear hSn
                  try simp only [Act.put, List.setIfInBounds_toArray, List.set_cons_zero, List.set_cons_succ, List.getElem_toArray, List.getElem_cons_succ, List.getElem_cons_zero]
                  refine wpAnyH_take (i := 12) (v := ?_) rfl (by kernel_rfl) (by kernel_rfl) (by kernel_rfl) (fun _ _ _ h => h) (Or.inl ⟨by rfl, ?_⟩) hS ?_
                  rotate_left
                  · intro wz hz; go_simp; try with_reducible rfl
                  try simp only [Act.put, List.setIfInBounds_toArray, List.set_cons_zero, List.set_cons_succ, List.getElem_toArray, List.getElem_cons_succ, List.getElem_cons_zero]
                  refine wpAnyH_done (by kernel_rfl) ?_ _
        case' a2_10 =>
          go_simp
          have B7 : Hid (Arr (wc1.alloc (.cells #[.int .i64 0, .int .i64 0, .slice none 0 0] 24)) wc1.heap.size 24 [.int .i64 0, .int .i64 0, .slice none 0 0]) := ⟨heap_alloc_at _ _⟩
          have hbn : Below wc1.heap.size wc1 (wc1.alloc (.cells #[.int .i64 0, .int .i64 0, .slice none 0 0] 24)) := bl_alloc (Below.refl _ _) _
          have hSn := bl_tr hS hbn
          have q7 : W1.heap.size ≤ wc1.heap.size := hS.size
          have eRN : ¬ pRN = wc1.heap.size := by have := RN.out.lt; omega
          have RN := hid (RN.out.stays hbn)
          generalize hwn : wc1.alloc (.cells #[.int .i64 0, .int .i64 0, .slice none 0 0] 24) = wc2 at B7 hSn RN ⊢
          generalize hp : wc1.heap.size = pB7 at B7  q7 eRN ⊢
          clear hbn hwn hp
          refine hK.out _ _ (hSn) (fun hSn => ?_)
          clear hK K hS
          have hS := hSn
          clear hSn
          try simp only [Act.put, List.setIfInBounds_toArray, List.set_cons_zero, List.set_cons_succ, List.getElem_toArray, List.getElem_cons_succ, List.getElem_cons_zero]
          refine wpAnyH_ready (rs := [4]) (by kernel_rfl) (by simp) (AllReadyH.cons rfl (fun K hK => ?a12_4) AllReadyH.nil)
          case' a12_4 =>
            go_simp
            refine (stamp_any wc2 n).mono ?_
            rintro e wc3 ⟨rfl, hb⟩
            have RN := hid (RN.out.stays hb)
            have B7 := hid (B7.out.stays hb)
            refine hK.out _ _ (bl_tr hS hb) (fun hSn => ?_)
            clear hK K hS
            have hS := hSn
            clear hSn
            try simp only [Act.put, List.setIfInBounds_toArray, List.set_cons_zero, List.set_cons_succ, List.getElem_toArray, List.getElem_cons_succ, List.getElem_cons_zero]
            clear hb
            refine wpAnyH_ready (rs := [5]) (by kernel_rfl) (by simp) (AllReadyH.cons rfl (fun K hK => ?a13_5) AllReadyH.nil)
            case' a13_5 =>
              go_simp
              have RT : Hid (Arr (wc3.alloc (.cells #[.int .i64 6, .int .i64 n, .slice none 0 0] 24)) wc3.heap.size 24 [.int .i64 6, .int .i64 n, .slice none 0 0]) := ⟨heap_alloc_at _ _⟩
              have hbn : Below wc3.heap.size wc3 (wc3.alloc (.cells #[.int .i64 6, .int .i64 n, .slice none 0 0] 24)) := bl_alloc (Below.refl _ _) _
              have hSn := bl_tr hS hbn
              have eRT : ¬ wc3.heap.size = pB7 := by have := B7.out.lt; omega
              have RN := hid (RN.out.stays hbn)
              have B7 := hid (B7.out.stays hbn)
              generalize hwn : wc3.alloc (.cells #[.int .i64 6, .int .i64 n, .slice none 0 0] 24) = wc4 at RT hSn RN B7 ⊢
              generalize hp : wc3.heap.size = pRT at RT  eRT ⊢
              clear hbn hwn hp
              refine hK.out _ _ (hSn) (fun hSn => ?_)
              clear hK K hS
              have hS := hSn
              clear hSn
              try simp only [Act.put, List.setIfInBounds_toArray, List.set_cons_zero, List.set_cons_succ, List.getElem_toArray, List.getElem_cons_succ, List.getElem_cons_zero]
              refine wpAnyH_ready (rs := [6]) (by kernel_rfl) (by simp) (AllReadyH.cons rfl (fun K hK => ?a14_6) AllReadyH.nil)
              case' a14_6 =>
                go_simp
                refine (hP3.out wc4 pRN pRT hS RN.out RT.out).mono ?_
                rintro e wc5 ⟨vs6, n6, rfl, hT6, hb⟩
                obtain ⟨a6, c6, rfl⟩ := hT6.form
                have HA : Hid (TAt wc5 (fun b => b ≠ pB7) n6 _ ra) := hT6.move (Keeps.refl _ _) (fun b (hb : wc4.heap.size ≤ b) => by have := B7.out.lt; show b ≠ _; omega)
                clear hT6
                have RN := hid (RN.out.stays hb)
                have B7 := hid (B7.out.stays hb)
                have RT := hid (RT.out.stays hb)
                refine hK.out _ _ (bl_tr hS hb) (fun hSn => ?_)
                clear hK K hS
                have hS := hSn
                clear hSn
                try simp only [Act.put, List.setIfInBounds_toArray, List.set_cons_zero, List.set_cons_succ, List.getElem_toArray, List.getElem_cons_succ, List.getElem_cons_zero]
                clear hb
                refine wpAnyH_take (i := 7) (v := ?_) rfl (by kernel_rfl) (by kernel_rfl) (by kernel_rfl) (fun _ _ _ h => h) (Or.inl ⟨by rfl, ?_⟩) hS ?_
                rotate_left
                · intro wz hz; go_simp; try with_reducible rfl
                try simp only [Act.put, List.setIfInBounds_toArray, List.set_cons_zero, List.set_cons_succ, List.getElem_toArray, List.getElem_cons_succ, List.getElem_cons_zero]
                refine wpAnyH_take (i := 8) (v := ?_) rfl (by kernel_rfl) (by kernel_rfl) (by kernel_rfl) (fun _ _ _ h => h) (Or.inl ⟨by rfl, ?_⟩) hS ?_
                rotate_left
                · intro wz hz; go_simp; try with_reducible rfl
                try simp only [Act.put, List.setIfInBounds_toArray, List.set_cons_zero, List.set_cons_succ, List.getElem_toArray, List.getElem_cons_succ, List.getElem_cons_zero]
                refine wpAnyH_take (i := 9) (v := ?_) rfl (by kernel_rfl) (by kernel_rfl) (by kernel_rfl) (fun _ _ _ h => h) (Or.inl ⟨by rfl, ?_⟩) hS ?_
                rotate_left
                · intro wz hz; go_simp; try with_reducible rfl
                try simp only [Act.put, List.setIfInBounds_toArray, List.set_cons_zero, List.set_cons_succ, List.getElem_toArray, List.getElem_cons_succ, List.getElem_cons_zero]
                refine wpAnyH_ready (rs := [11]) (by kernel_rfl) (by simp) (AllReadyH.cons rfl (fun K hK => ?a15_11) AllReadyH.nil)
                case' a15_11 =>
                  go_simp
                  have cc := B7.out.cell
                  have cf := B7.out.frozen
                  go_simp
                  have HA : Hid (TAt (((wc5.setCell ⟨pB7, 0, none⟩ (.int .i64 ra.k)).setCell ⟨pB7, 1, none⟩ (.int .i64 ra.n)).setCell ⟨pB7, 2, none⟩ (.slice a6 ra.ks.length c6)) Any n6 _ ra) := HA.out.move (keeps3 wc5 pB7 _ _ _) (fun _ _ => trivial)
                  have B7 := hid (((B7.out.set 0 (.int .i64 ra.k)).set 1 (.int .i64 ra.n)).set 2 (.slice a6 ra.ks.length c6))
                  simp only [List.set_cons_zero, List.set_cons_succ] at B7
                  have hSn : Below W1.heap.size W1 (((wc5.setCell ⟨pB7, 0, none⟩ (.int .i64 ra.k)).setCell ⟨pB7, 1, none⟩ (.int .i64 ra.n)).setCell ⟨pB7, 2, none⟩ (.slice a6 ra.ks.length c6)) := (bl_set ⟨pB7, 2, none⟩ (.slice a6 ra.ks.length c6) (bl_set ⟨pB7, 1, none⟩ (.int .i64 ra.n) (bl_set ⟨pB7, 0, none⟩ (.int .i64 ra.k) hS q7) q7) q7)
                  generalize (((wc5.setCell ⟨pB7, 0, none⟩ (.int .i64 ra.k)).setCell ⟨pB7, 1, none⟩ (.int .i64 ra.n)).setCell ⟨pB7, 2, none⟩ (.slice a6 ra.ks.length c6)) = wc6 at B7 hSn HA ⊢
                  clear cc cf
                  refine hK.out _ _ (hSn) (fun hSn => ?_)
                  clear hK K hS
                  have hS := hSn
                  clear hSn
                  try simp only [Act.put, List.setIfInBounds_toArray, List.set_cons_zero, List.set_cons_succ, List.getElem_toArray, List.getElem_cons_succ, List.getElem_cons_zero]
                  refine wpAnyH_take (i := 12) (v := ?_) rfl (by kernel_rfl) (by kernel_rfl) (by kernel_rfl) (fun _ _ _ h => h) (Or.inl ⟨by rfl, ?_⟩) hS ?_
                  rotate_left
                  · intro wz hz; go_simp; try with_reducible rfl
                  try simp only [Act.put, List.setIfInBounds_toArray, List.set_cons_zero, List.set_cons_succ, List.getElem_toArray, List.getElem_cons_succ, List.getElem_cons_zero]
                  refine wpAnyH_done (by kernel_rfl) ?_ _
      case' a1_4 =>
        go_simp
        refine (stamp_any wc0 n).mono ?_
        rintro e wc1 ⟨rfl, hb⟩
        refine hK.out _ _ (bl_tr hS hb) (fun hSn => ?_)
        clear hK K hS
        have hS := hSn
        clear hSn
        try simp only [Act.put, List.setIfInBounds_toArray, List.set_cons_zero, List.set_cons_succ, List.getElem_toArray, List.getElem_cons_succ, List.getElem_cons_zero]
        clear hb
        refine wpAnyH_ready (rs := [2, 5, 10]) (by kernel_rfl) (by simp) (AllReadyH.cons rfl (fun K hK => ?a16_2) (AllReadyH.cons rfl (fun K hK => ?a16_5) (AllReadyH.cons rfl (fun K hK => ?a16_10) AllReadyH.nil)))
        case' a16_2 =>
          go_simp
          have RN : Hid (Arr (wc1.alloc (.cells #[.int .i64 n] 3)) wc1.heap.size 3 [.int .i64 n]) := ⟨heap_alloc_at _ _⟩
          have hbn : Below wc1.heap.size wc1 (wc1.alloc (.cells #[.int .i64 n] 3)) := bl_alloc (Below.refl _ _) _
          have hSn := bl_tr hS hbn
          generalize hwn : wc1.alloc (.cells #[.int .i64 n] 3) = wc2 at RN hSn  ⊢
          generalize hp : wc1.heap.size = pRN at RN   ⊢
          clear hbn hwn hp
          refine hK.out _ _ (hSn) (fun hSn => ?_)
          clear hK K hS
          have hS := hSn
          clear hSn
          try simp only [Act.put, List.setIfInBounds_toArray, List.set_cons_zero, List.set_cons_succ, List.getElem_toArray, List.getElem_cons_succ, List.getElem_cons_zero]
          refine wpAnyH_ready (rs := [5, 10]) (by kernel_rfl) (by simp) (AllReadyH.cons rfl (fun K hK => ?a17_5) (AllReadyH.cons rfl (fun K hK => ?a17_10) AllReadyH.nil))
          case' a17_5 =>
            go_simp
            have RT : Hid (Arr (wc2.alloc (.cells #[.int .i64 6, .int .i64 n, .slice none 0 0] 24)) wc2.heap.size 24 [.int .i64 6, .int .i64 n, .slice none 0 0]) := ⟨heap_alloc_at _ _⟩
            have hbn : Below wc2.heap.size wc2 (wc2.alloc (.cells #[.int .i64 6, .int .i64 n, .slice none 0 0] 24)) := bl_alloc (Below.refl _ _) _
            have hSn := bl_tr hS hbn
            have RN := hid (RN.out.stays hbn)
            generalize hwn : wc2.alloc (.cells #[.int .i64 6, .int .i64 n, .slice none 0 0] 24) = wc3 at RT hSn RN ⊢
            generalize hp : wc2.heap.size = pRT at RT   ⊢
            clear hbn hwn hp
            refine hK.out _ _ (hSn) (fun hSn => ?_)
            clear hK K hS
            have hS := hSn
            clear hSn
            try simp only [Act.put, List.setIfInBounds_toArray, List.set_cons_zero, List.set_cons_succ, List.getElem_toArray, List.getElem_cons_succ, List.getElem_cons_zero]
            refine wpAnyH_ready (rs := [6, 10]) (by kernel_rfl) (by simp) (AllReadyH.cons rfl (fun K hK => ?a18_6) (AllReadyH.cons rfl (fun K hK => ?a18_10) AllReadyH.nil))
            case' a18_6 =>
              go_simp
              refine (hP3.out wc3 pRN pRT hS RN.out RT.out).mono ?_
              rintro e wc4 ⟨vs6, n6, rfl, hT6, hb⟩
              obtain ⟨a6, c6, rfl⟩ := hT6.form
              have HA : Hid (TAt wc4 (fun b => b < wc4.heap.size) n6 _ ra) := TAt.old hT6
              clear hT6
              have RN := hid (RN.out.stays hb)
              have RT := hid (RT.out.stays hb)
              refine hK.out _ _ (bl_tr hS hb) (fun hSn => ?_)
              clear hK K hS
              have hS := hSn
              clear hSn
              try simp only [Act.put, List.setIfInBounds_toArray, List.set_cons_zero, List.set_cons_succ, List.getElem_toArray, List.getElem_cons_succ, List.getElem_cons_zero]
              clear hb
              refine wpAnyH_take (i := 7) (v := ?_) rfl (by kernel_rfl) (by kernel_rfl) (by kernel_rfl) (fun _ _ _ h => h) (Or.inl ⟨by rfl, ?_⟩) hS ?_
              rotate_left
              · intro wz hz; go_simp; try with_reducible rfl
              try simp only [Act.put, List.setIfInBounds_toArray, List.set_cons_zero, List.set_cons_succ, List.getElem_toArray, List.getElem_cons_succ, List.getElem_cons_zero]
              refine wpAnyH_take (i := 8) (v := ?_) rfl (by kernel_rfl) (by kernel_rfl) (by kernel_rfl) (fun _ _ _ h => h) (Or.inl ⟨by rfl, ?_⟩) hS ?_
              rotate_left
              · intro wz hz; go_simp; try with_reducible rfl
              try simp only [Act.put, List.setIfInBounds_toArray, List.set_cons_zero, List.set_cons_succ, List.getElem_toArray, List.getElem_cons_succ, List.getElem_cons_zero]
              refine wpAnyH_take (i := 9) (v := ?_) rfl (by kernel_rfl) (by kernel_rfl) (by kernel_rfl) (fun _ _ _ h => h) (Or.inl ⟨by rfl, ?_⟩) hS ?_
              rotate_left
              · intro wz hz; go_simp; try with_reducible rfl
              try simp only [Act.put, List.setIfInBounds_toArray, List.set_cons_zero, List.set_cons_succ, List.getElem_toArray, List.getElem_cons_succ, List.getElem_cons_zero]
              refine wpAnyH_ready (rs := [10]) (by kernel_rfl) (by simp) (AllReadyH.cons rfl (fun K hK => ?a19_10) AllReadyH.nil)
              case' a19_10 =>
                go_simp
                have B7 : Hid (Arr (wc4.alloc (.cells #[.int .i64 0, .int .i64 0, .slice none 0 0] 24)) wc4.heap.size 24 [.int .i64 0, .int .i64 0, .slice none 0 0]) := ⟨heap_alloc_at _ _⟩
                have hbn : Below wc4.heap.size wc4 (wc4.alloc (.cells #[.int .i64 0, .int .i64 0, .slice none 0 0] 24)) := bl_alloc (Below.refl _ _) _
                have hSn := bl_tr hS hbn
                have q7 : W1.heap.size ≤ wc4.heap.size := hS.size
                have eRN : ¬ pRN = wc4.heap.size := by have := RN.out.lt; omega
                have eRT : ¬ pRT = wc4.heap.size := by have := RT.out.lt; omega
                have RN := hid (RN.out.stays hbn)
                have RT := hid (RT.out.stays hbn)
                have HA : Hid (TAt (wc4.alloc (.cells #[.int .i64 0, .int .i64 0, .slice none 0 0] 24)) (fun b => b ≠ wc4.heap.size) n6 _ ra) := (HA.out.move (Keeps.refl _ _) (fun b (hb : b < _) => by show b ≠ _; omega)).below hbn
                generalize hwn : wc4.alloc (.cells #[.int .i64 0, .int .i64 0, .slice none 0 0] 24) = wc5 at B7 hSn RN RT HA ⊢
                generalize hp : wc4.heap.size = pB7 at B7 HA q7 eRN eRT ⊢
                clear hbn hwn hp
                refine hK.out _ _ (hSn) (fun hSn => ?_)
                clear hK K hS
                have hS := hSn
                clear hSn
                try simp only [Act.put, List.setIfInBounds_toArray, List.set_cons_zero, List.set_cons_succ, List.getElem_toArray, List.getElem_cons_succ, List.getElem_cons_zero]
                refine wpAnyH_ready (rs := [11]) (by kernel_rfl) (by simp) (AllReadyH.cons rfl (fun K hK => ?a20_11) AllReadyH.nil)
                case' a20_11 =>
                  go_simp
                  have cc := B7.out.cell
                  have cf := B7.out.frozen
                  go_simp
                  have HA : Hid (TAt (((wc5.setCell ⟨pB7, 0, none⟩ (.int .i64 ra.k)).setCell ⟨pB7, 1, none⟩ (.int .i64 ra.n)).setCell ⟨pB7, 2, none⟩ (.slice a6 ra.ks.length c6)) Any n6 _ ra) := HA.out.move (keeps3 wc5 pB7 _ _ _) (fun _ _ => trivial)
                  have B7 := hid (((B7.out.set 0 (.int .i64 ra.k)).set 1 (.int .i64 ra.n)).set 2 (.slice a6 ra.ks.length c6))
                  simp only [List.set_cons_zero, List.set_cons_succ] at B7
                  have hSn : Below W1.heap.size W1 (((wc5.setCell ⟨pB7, 0, none⟩ (.int .i64 ra.k)).setCell ⟨pB7, 1, none⟩ (.int .i64 ra.n)).setCell ⟨pB7, 2, none⟩ (.slice a6 ra.ks.length c6)) := (bl_set ⟨pB7, 2, none⟩ (.slice a6 ra.ks.length c6) (bl_set ⟨pB7, 1, none⟩ (.int .i64 ra.n) (bl_set ⟨pB7, 0, none⟩ (.int .i64 ra.k) hS q7) q7) q7)
                  generalize (((wc5.setCell ⟨pB7, 0, none⟩ (.int .i64 ra.k)).setCell ⟨pB7, 1, none⟩ (.int .i64 ra.n)).setCell ⟨pB7, 2, none⟩ (.slice a6 ra.ks.length c6)) = wc6 at B7 hSn HA ⊢
                  clear cc cf
                  refine hK.out _ _ (hSn) (fun hSn => ?_)
                  clear hK K hS
                  have hS := hSn
                  clear hSn
                  try simp only [Act.put, List.setIfInBounds_toArray, List.set_cons_zero, List.set_cons_succ, List.getElem_toArray, List.getElem_cons_succ, List.getElem_cons_zero]
                  refine wpAnyH_take (i := 12) (v := ?_) rfl (by kernel_rfl) (by kernel_rfl) (by kernel_rfl) (fun _ _ _ h => h) (Or.inl ⟨by rfl, ?_⟩) hS ?_
                  rotate_left
                  · intro wz hz; go_simp; try with_reducible rfl
                  try simp only [Act.put, List.setIfInBounds_toArray, List.set_cons_zero, List.set_cons_succ, List.getElem_toArray, List.getElem_cons_succ, List.getElem_cons_zero]
                  refine wpAnyH_done (by kernel_rfl) ?_ _
            case' a18_10 =>
              go_simp
              have B7 : Hid (Arr (wc3.alloc (.cells #[.int .i64 0, .int .i64 0, .slice none 0 0] 24)) wc3.heap.size 24 [.int .i64 0, .int .i64 0, .slice none 0 0]) := ⟨heap_alloc_at _ _⟩
              have hbn : Below wc3.heap.size wc3 (wc3.alloc (.cells #[.int .i64 0, .int .i64 0, .slice none 0 0] 24)) := bl_alloc (Below.refl _ _) _
              have hSn := bl_tr hS hbn
              have q7 : W1.heap.size ≤ wc3.heap.size := hS.size
              have eRN : ¬ pRN = wc3.heap.size := by have := RN.out.lt; omega
              have eRT : ¬ pRT = wc3.heap.size := by have := RT.out.lt; omega
              have RN := hid (RN.out.stays hbn)
              have RT := hid (RT.out.stays hbn)
              generalize hwn : wc3.alloc (.cells #[.int .i64 0, .int .i64 0, .slice none 0 0] 24) = wc4 at B7 hSn RN RT ⊢
              generalize hp : wc3.heap.size = pB7 at B7  q7 eRN eRT ⊢
              clear hbn hwn hp
              refine hK.out _ _ (hSn) (fun hSn => ?_)
              clear hK K hS
              have hS := hSn
              clear hSn
              try simp only [Act.put, List.setIfInBounds_toArray, List.set_cons_zero, List.set_cons_succ, List.getElem_toArray, List.getElem_cons_succ, List.getElem_cons_zero]
              refine wpAnyH_ready (rs := [6]) (by kernel_rfl) (by simp) (AllReadyH.cons rfl (fun K hK => ?a21_6) AllReadyH.nil)
              case' a21_6 =>
                go_simp
                refine (hP3.out wc4 pRN pRT hS RN.out RT.out).mono ?_
                rintro e wc5 ⟨vs6, n6, rfl, hT6, hb⟩
                obtain ⟨a6, c6, rfl⟩ := hT6.form
                have HA : Hid (TAt wc5 (fun b => b ≠ pB7) n6 _ ra) := hT6.move (Keeps.refl _ _) (fun b (hb : wc4.heap.size ≤ b) => by have := B7.out.lt; show b ≠ _; omega)
                clear hT6
                have RN := hid (RN.out.stays hb)
                have RT := hid (RT.out.stays hb)
                have B7 := hid (B7.out.stays hb)
                refine hK.out _ _ (bl_tr hS hb) (fun hSn => ?_)
                clear hK K hS
                have hS := hSn
                clear hSn
                try simp only [Act.put, List.setIfInBounds_toArray, List.set_cons_zero, List.set_cons_succ, List.getElem_toArray, List.getElem_cons_succ, List.getElem_cons_zero]
                clear hb
                refine wpAnyH_take (i := 7) (v := ?_) rfl (by kernel_rfl) (by kernel_rfl) (by kernel_rfl) (fun _ _ _ h => h) (Or.inl ⟨by rfl, ?_⟩) hS ?_
                rotate_left
                · intro wz hz; go_simp; try with_reducible rfl
                try simp only [Act.put, List.setIfInBounds_toArray, List.set_cons_zero, List.set_cons_succ, List.getElem_toArray, List.getElem_cons_succ, List.getElem_cons_zero]
                refine wpAnyH_take (i := 8) (v := ?_) rfl (by kernel_rfl) (by kernel_rfl) (by kernel_rfl) (fun _ _ _ h => h) (Or.inl ⟨by rfl, ?_⟩) hS ?_
                rotate_left
                · intro wz hz; go_simp; try with_reducible rfl
                try simp only [Act.put, List.setIfInBounds_toArray, List.set_cons_zero, List.set_cons_succ, List.getElem_toArray, List.getElem_cons_succ, List.getElem_cons_zero]
                refine wpAnyH_take (i := 9) (v := ?_) rfl (by kernel_rfl) (by kernel_rfl) (by kernel_rfl) (fun _ _ _ h => h) (Or.inl ⟨by rfl, ?_⟩) hS ?_
                rotate_left
                · intro wz hz; go_simp; try with_reducible rfl
                try simp only [Act.put, List.setIfInBounds_toArray, List.set_cons_zero, List.set_cons_succ, List.getElem_toArray, List.getElem_cons_succ, List.getElem_cons_zero]
                refine wpAnyH_ready (rs := [11]) (by kernel_rfl) (by simp) (AllReadyH.cons rfl (fun K hK => ?a22_11) AllReadyH.nil)
                case' a22_11 =>
                  go_simp
                  have cc := B7.out.cell
                  have cf := B7.out.frozen
                  go_simp
                  have HA : Hid (TAt (((wc5.setCell ⟨pB7, 0, none⟩ (.int .i64 ra.k)).setCell ⟨pB7, 1, none⟩ (.int .i64 ra.n)).setCell ⟨pB7, 2, none⟩ (.slice a6 ra.ks.length c6)) Any n6 _ ra) := HA.out.move (keeps3 wc5 pB7 _ _ _) (fun _ _ => trivial)
                  have B7 := hid (((B7.out.set 0 (.int .i64 ra.k)).set 1 (.int .i64 ra.n)).set 2 (.slice a6 ra.ks.length c6))
                  simp only [List.set_cons_zero, List.set_cons_succ] at B7
                  have hSn : Below W1.heap.size W1 (((wc5.setCell ⟨pB7, 0, none⟩ (.int .i64 ra.k)).setCell ⟨pB7, 1, none⟩ (.int .i64 ra.n)).setCell ⟨pB7, 2, none⟩ (.slice a6 ra.ks.length c6)) := (bl_set ⟨pB7, 2, none⟩ (.slice a6 ra.ks.length c6) (bl_set ⟨pB7, 1, none⟩ (.int .i64 ra.n) (bl_set ⟨pB7, 0, none⟩ (.int .i64 ra.k) hS q7) q7) q7)
                  generalize (((wc5.setCell ⟨pB7, 0, none⟩ (.int .i64 ra.k)).setCell ⟨pB7, 1, none⟩ (.int .i64 ra.n)).setCell ⟨pB7, 2, none⟩ (.slice a6 ra.ks.length c6)) = wc6 at B7 hSn HA ⊢
                  clear cc cf
                  refine hK.out _ _ (hSn) (fun hSn => ?_)
                  clear hK K hS
                  have hS := hSn
                  clear hSn
                  try simp only [Act.put, List.setIfInBounds_toArray, List.set_cons_zero, List.set_cons_succ, List.getElem_toArray, List.getElem_cons_succ, List.getElem_cons_zero]
                  refine wpAnyH_take (i := 12) (v := ?_) rfl (by kernel_rfl) (by kernel_rfl) (by kernel_rfl) (fun _ _ _ h => h) (Or.inl ⟨by rfl, ?_⟩) hS ?_
                  rotate_left
                  · intro wz hz; go_simp; try with_reducible rfl
                  try simp only [Act.put, List.setIfInBounds_toArray, List.set_cons_zero, List.set_cons_succ, List.getElem_toArray, List.getElem_cons_succ, List.getElem_cons_zero]
                  refine wpAnyH_done (by kernel_rfl) ?_ _
          case' a17_10 =>
            go_simp
            have B7 : Hid (Arr (wc2.alloc (.cells #[.int .i64 0, .int .i64 0, .slice none 0 0] 24)) wc2.heap.size 24 [.int .i64 0, .int .i64 0, .slice none 0 0]) := ⟨heap_alloc_at _ _⟩
            have hbn : Below wc2.heap.size wc2 (wc2.alloc (.cells #[.int .i64 0, .int .i64 0, .slice none 0 0] 24)) := bl_alloc (Below.refl _ _) _
            have hSn := bl_tr hS hbn
            have q7 : W1.heap.size ≤ wc2.heap.size := hS.size
            have eRN : ¬ pRN = wc2.heap.size := by have := RN.out.lt; omega
            have RN := hid (RN.out.stays hbn)
            generalize hwn : wc2.alloc (.cells #[.int .i64 0, .int .i64 0, .slice none 0 0] 24) = wc3 at B7 hSn RN ⊢
            generalize hp : wc2.heap.size = pB7 at B7  q7 eRN ⊢
            clear hbn hwn hp
            refine hK.out _ _ (hSn) (fun hSn => ?_)
            clear hK K hS
            have hS := hSn
            clear hSn
            try simp only [Act.put, List.setIfInBounds_toArray, List.set_cons_zero, List.set_cons_succ, List.getElem_toArray, List.getElem_cons_succ, List.getElem_cons_zero]
            refine wpAnyH_ready (rs := [5]) (by kernel_rfl) (by simp) (AllReadyH.cons rfl (fun K hK => ?a23_5) AllReadyH.nil)
            case' a23_5 =>
              go_simp
              have RT : Hid (Arr (wc3.alloc (.cells #[.int .i64 6, .int .i64 n, .slice none 0 0] 24)) wc3.heap.size 24 [.int .i64 6, .int .i64 n, .slice none 0 0]) := ⟨heap_alloc_at _ _⟩
              have hbn : Below wc3.heap.size wc3 (wc3.alloc (.cells #[.int .i64 6, .int .i64 n, .slice none 0 0] 24)) := bl_alloc (Below.refl _ _) _
              have hSn := bl_tr hS hbn
              have eRT : ¬ wc3.heap.size = pB7 := by have := B7.out.lt; omega
              have RN := hid (RN.out.stays hbn)
              have B7 := hid (B7.out.stays hbn)
              generalize hwn : wc3.alloc (.cells #[.int .i64 6, .int .i64 n, .slice none 0 0] 24) = wc4 at RT hSn RN B7 ⊢
              generalize hp : wc3.heap.size = pRT at RT  eRT ⊢
              clear hbn hwn hp
              refine hK.out _ _ (hSn) (fun hSn => ?_)
              clear hK K hS
              have hS := hSn
              clear hSn
              try simp only [Act.put, List.setIfInBounds_toArray, List.set_cons_zero, List.set_cons_succ, List.getElem_toArray, List.getElem_cons_succ, List.getElem_cons_zero]
              refine wpAnyH_ready (rs := [6]) (by kernel_rfl) (by simp) (AllReadyH.cons rfl (fun K hK => ?a24_6) AllReadyH.nil)
              case' a24_6 =>
                go_simp
                refine (hP3.out wc4 pRN pRT hS RN.out RT.out).mono ?_
                rintro e wc5 ⟨vs6, n6, rfl, hT6, hb⟩
                obtain ⟨a6, c6, rfl⟩ := hT6.form
                have HA : Hid (TAt wc5 (fun b => b ≠ pB7) n6 _ ra) := hT6.move (Keeps.refl _ _) (fun b (hb : wc4.heap.size ≤ b) => by have := B7.out.lt; show b ≠ _; omega)
                clear hT6
                have RN := hid (RN.out.stays hb)
                have B7 := hid (B7.out.stays hb)
                have RT := hid (RT.out.stays hb)
                refine hK.out _ _ (bl_tr hS hb) (fun hSn => ?_)
                clear hK K hS
                have hS := hSn
                clear hSn
                try simp only [Act.put, List.setIfInBounds_toArray, List.set_cons_zero, List.set_cons_succ, List.getElem_toArray, List.getElem_cons_succ, List.getElem_cons_zero]
                clear hb
                refine wpAnyH_take (i := 7) (v := ?_) rfl (by kernel_rfl) (by kernel_rfl) (by kernel_rfl) (fun _ _ _ h => h) (Or.inl ⟨by rfl, ?_⟩) hS ?_
                rotate_left
                · intro wz hz; go_simp; try with_reducible rfl
                try simp only [Act.put, List.setIfInBounds_toArray, List.set_cons_zero, List.set_cons_succ, List.getElem_toArray, List.getElem_cons_succ, List.getElem_cons_zero]
                refine wpAnyH_take (i := 8) (v := ?_) rfl (by kernel_rfl) (by kernel_rfl) (by kernel_rfl) (fun _ _ _ h => h) (Or.inl ⟨by rfl, ?_⟩) hS ?_
                rotate_left
                · intro wz hz; go_simp; try with_reducible rfl
                try simp only [Act.put, List.setIfInBounds_toArray, List.set_cons_zero, List.set_cons_succ, List.getElem_toArray, List.getElem_cons_succ, List.getElem_cons_zero]
                refine wpAnyH_take (i := 9) (v := ?_) rfl (by kernel_rfl) (by kernel_rfl) (by kernel_rfl) (fun _ _ _ h => h) (Or.inl ⟨by rfl, ?_⟩) hS ?_
                rotate_left
                · intro wz hz; go_simp; try with_reducible rfl
                try simp only [Act.put, List.setIfInBounds_toArray, List.set_cons_zero, List.set_cons_succ, List.getElem_toArray, List.getElem_cons_succ, List.getElem_cons_zero]
                refine wpAnyH_ready (rs := [11]) (by kernel_rfl) (by simp) (AllReadyH.cons rfl (fun K hK => ?a25_11) AllReadyH.nil)
                case' a25_11 =>
                  go_simp
                  have cc := B7.out.cell
                  have cf := B7.out.frozen
                  go_simp
                  have HA : Hid (TAt (((wc5.setCell ⟨pB7, 0, none⟩ (.int .i64 ra.k)).setCell ⟨pB7, 1, none⟩ (.int .i64 ra.n)).setCell ⟨pB7, 2, none⟩ (.slice a6 ra.ks.length c6)) Any n6 _ ra) := HA.out.move (keeps3 wc5 pB7 _ _ _) (fun _ _ => trivial)
                  have B7 := hid (((B7.out.set 0 (.int .i64 ra.k)).set 1 (.int .i64 ra.n)).set 2 (.slice a6 ra.ks.length c6))
                  simp only [List.set_cons_zero, List.set_cons_succ] at B7
                  have hSn : Below W1.heap.size W1 (((wc5.setCell ⟨pB7, 0, none⟩ (.int .i64 ra.k)).setCell ⟨pB7, 1, none⟩ (.int .i64 ra.n)).setCell ⟨pB7, 2, none⟩ (.slice a6 ra.ks.length c6)) := (bl_set ⟨pB7, 2, none⟩ (.slice a6 ra.ks.length c6) (bl_set ⟨pB7, 1, none⟩ (.int .i64 ra.n) (bl_set ⟨pB7, 0, none⟩ (.int .i64 ra.k) hS q7) q7) q7)
                  generalize (((wc5.setCell ⟨pB7, 0, none⟩ (.int .i64 ra.k)).setCell ⟨pB7, 1, none⟩ (.int .i64 ra.n)).setCell ⟨pB7, 2, none⟩ (.slice a6 ra.ks.length c6)) = wc6 at B7 hSn HA ⊢
                  clear cc cf
                  refine hK.out _ _ (hSn) (fun hSn => ?_)
                  clear hK K hS
                  have hS := hSn
                  clear hSn
                  try simp only [Act.put, List.setIfInBounds_toArray, List.set_cons_zero, List.set_cons_succ, List.getElem_toArray, List.getElem_cons_succ, List.getElem_cons_zero]
                  refine wpAnyH_take (i := 12) (v := ?_) rfl (by kernel_rfl) (by kernel_rfl) (by kernel_rfl) (fun _ _ _ h => h) (Or.inl ⟨by rfl, ?_⟩) hS ?_
                  rotate_left
                  · intro wz hz; go_simp; try with_reducible rfl
                  try simp only [Act.put, List.setIfInBounds_toArray, List.set_cons_zero, List.set_cons_succ, List.getElem_toArray, List.getElem_cons_succ, List.getElem_cons_zero]
                  refine wpAnyH_done (by kernel_rfl) ?_ _
        case' a16_5 =>
          go_simp
          have RT : Hid (Arr (wc1.alloc (.cells #[.int .i64 6, .int .i64 n, .slice none 0 0] 24)) wc1.heap.size 24 [.int .i64 6, .int .i64 n, .slice none 0 0]) := ⟨heap_alloc_at _ _⟩
          have hbn : Below wc1.heap.size wc1 (wc1.alloc (.cells #[.int .i64 6, .int .i64 n, .slice none 0 0] 24)) := bl_alloc (Below.refl _ _) _
          have hSn := bl_tr hS hbn
          generalize hwn : wc1.alloc (.cells #[.int .i64 6, .int .i64 n, .slice none 0 0] 24) = wc2 at RT hSn  ⊢
          generalize hp : wc1.heap.size = pRT at RT   ⊢
          clear hbn hwn hp
          refine hK.out _ _ (hSn) (fun hSn => ?_)
          clear hK K hS
          have hS := hSn
          clear hSn
          try simp only [Act.put, List.setIfInBounds_toArray, List.set_cons_zero, List.set_cons_succ, List.getElem_toArray, List.getElem_cons_succ, List.getElem_cons_zero]
          refine wpAnyH_ready (rs := [2, 10]) (by kernel_rfl) (by simp) (AllReadyH.cons rfl (fun K hK => ?a26_2) (AllReadyH.cons rfl (fun K hK => ?a26_10) AllReadyH.nil))
          case' a26_2 =>
            go_simp
            have RN : Hid (Arr (wc2.alloc (.cells #[.int .i64 n] 3)) wc2.heap.size 3 [.int .i64 n]) := ⟨heap_alloc_at _ _⟩
            have hbn : Below wc2.heap.size wc2 (wc2.alloc (.cells #[.int .i64 n] 3)) := bl_alloc (Below.refl _ _) _
            have hSn := bl_tr hS hbn
            have RT := hid (RT.out.stays hbn)
            generalize hwn : wc2.alloc (.cells #[.int .i64 n] 3) = wc3 at RN hSn RT ⊢
            generalize hp : wc2.heap.size = pRN at RN   ⊢
            clear hbn hwn hp
            refine hK.out _ _ (hSn) (fun hSn => ?_)
            clear hK K hS
            have hS := hSn
            clear hSn
            try simp only [Act.put, List.setIfInBounds_toArray, List.set_cons_zero, List.set_cons_succ, List.getElem_toArray, List.getElem_cons_succ, List.getElem_cons_zero]
            refine wpAnyH_ready (rs := [6, 10]) (by kernel_rfl) (by simp) (AllReadyH.cons rfl (fun K hK => ?a27_6) (AllReadyH.cons rfl (fun K hK => ?a27_10) AllReadyH.nil))
            case' a27_6 =>
              go_simp
              refine (hP3.out wc3 pRN pRT hS RN.out RT.out).mono ?_
              rintro e wc4 ⟨vs6, n6, rfl, hT6, hb⟩
              obtain ⟨a6, c6, rfl⟩ := hT6.form
              have HA : Hid (TAt wc4 (fun b => b < wc4.heap.size) n6 _ ra) := TAt.old hT6
              clear hT6
              have RT := hid (RT.out.stays hb)
              have RN := hid (RN.out.stays hb)
              refine hK.out _ _ (bl_tr hS hb) (fun hSn => ?_)
              clear hK K hS
              have hS := hSn
              clear hSn
              try simp only [Act.put, List.setIfInBounds_toArray, List.set_cons_zero, List.set_cons_succ, List.getElem_toArray, List.getElem_cons_succ, List.getElem_cons_zero]
              clear hb
              refine wpAnyH_take (i := 7) (v := ?_) rfl (by kernel_rfl) (by kernel_rfl) (by kernel_rfl) (fun _ _ _ h => h) (Or.inl ⟨by rfl, ?_⟩) hS ?_
              rotate_left
              · intro wz hz; go_simp; try with_reducible rfl
              try simp only [Act.put, List.setIfInBounds_toArray, List.set_cons_zero, List.set_cons_succ, List.getElem_toArray, List.getElem_cons_succ, List.getElem_cons_zero]
              refine wpAnyH_take (i := 8) (v := ?_) rfl (by kernel_rfl) (by kernel_rfl) (by kernel_rfl) (fun _ _ _ h => h) (Or.inl ⟨by rfl, ?_⟩) hS ?_
              rotate_left
              · intro wz hz; go_simp; try with_reducible rfl
              try simp only [Act.put, List.setIfInBounds_toArray, List.set_cons_zero, List.set_cons_succ, List.getElem_toArray, List.getElem_cons_succ, List.getElem_cons_zero]
              refine wpAnyH_take (i := 9) (v := ?_) rfl (by kernel_rfl) (by kernel_rfl) (by kernel_rfl) (fun _ _ _ h => h) (Or.inl ⟨by rfl, ?_⟩) hS ?_
              rotate_left
              · intro wz hz; go_simp; try with_reducible rfl
              try simp only [Act.put, List.setIfInBounds_toArray, List.set_cons_zero, List.set_cons_succ, List.getElem_toArray, List.getElem_cons_succ, List.getElem_cons_zero]
              refine wpAnyH_ready (rs := [10]) (by kernel_rfl) (by simp) (AllReadyH.cons rfl (fun K hK => ?a28_10) AllReadyH.nil)
              case' a28_10 =>
                go_simp
                have B7 : Hid (Arr (wc4.alloc (.cells #[.int .i64 0, .int .i64 0, .slice none 0 0] 24)) wc4.heap.size 24 [.int .i64 0, .int .i64 0, .slice none 0 0]) := ⟨heap_alloc_at _ _⟩
                have hbn : Below wc4.heap.size wc4 (wc4.alloc (.cells #[.int .i64 0, .int .i64 0, .slice none 0 0] 24)) := bl_alloc (Below.refl _ _) _
                have hSn := bl_tr hS hbn
                have q7 : W1.heap.size ≤ wc4.heap.size := hS.size
                have eRT : ¬ pRT = wc4.heap.size := by have := RT.out.lt; omega
                have eRN : ¬ pRN = wc4.heap.size := by have := RN.out.lt; omega
                have RT := hid (RT.out.stays hbn)
                have RN := hid (RN.out.stays hbn)
                have HA : Hid (TAt (wc4.alloc (.cells #[.int .i64 0, .int .i64 0, .slice none 0 0] 24)) (fun b => b ≠ wc4.heap.size) n6 _ ra) := (HA.out.move (Keeps.refl _ _) (fun b (hb : b < _) => by show b ≠ _; omega)).below hbn
                generalize hwn : wc4.alloc (.cells #[.int .i64 0, .int .i64 0, .slice none 0 0] 24) = wc5 at B7 hSn RT RN HA ⊢
                generalize hp : wc4.heap.size = pB7 at B7 HA q7 eRT eRN ⊢
                clear hbn hwn hp
                refine hK.out _ _ (hSn) (fun hSn => ?_)
                clear hK K hS
                have hS := hSn
                clear hSn
                try simp only [Act.put, List.setIfInBounds_toArray, List.set_cons_zero, List.set_cons_succ, List.getElem_toArray, List.getElem_cons_succ, List.getElem_cons_zero]
                refine wpAnyH_ready (rs := [11]) (by kernel_rfl) (by simp) (AllReadyH.cons rfl (fun K hK => ?a29_11) AllReadyH.nil)
                case' a29_11 =>
                  go_simp
                  have cc := B7.out.cell
                  have cf := B7.out.frozen
                  go_simp
                  have HA : Hid (TAt (((wc5.setCell ⟨pB7, 0, none⟩ (.int .i64 ra.k)).setCell ⟨pB7, 1, none⟩ (.int .i64 ra.n)).setCell ⟨pB7, 2, none⟩ (.slice a6 ra.ks.length c6)) Any n6 _ ra) := HA.out.move (keeps3 wc5 pB7 _ _ _) (fun _ _ => trivial)
                  have B7 := hid (((B7.out.set 0 (.int .i64 ra.k)).set 1 (.int .i64 ra.n)).set 2 (.slice a6 ra.ks.length c6))
                  simp only [List.set_cons_zero, List.set_cons_succ] at B7
                  have hSn : Below W1.heap.size W1 (((wc5.setCell ⟨pB7, 0, none⟩ (.int .i64 ra.k)).setCell ⟨pB7, 1, none⟩ (.int .i64 ra.n)).setCell ⟨pB7, 2, none⟩ (.slice a6 ra.ks.length c6)) := (bl_set ⟨pB7, 2, none⟩ (.slice a6 ra.ks.length c6) (bl_set ⟨pB7, 1, none⟩ (.int .i64 ra.n) (bl_set ⟨pB7, 0, none⟩ (.int .i64 ra.k) hS q7) q7) q7)
                  generalize (((wc5.setCell ⟨pB7, 0, none⟩ (.int .i64 ra.k)).setCell ⟨pB7, 1, none⟩ (.int .i64 ra.n)).setCell ⟨pB7, 2, none⟩ (.slice a6 ra.ks.length c6)) = wc6 at B7 hSn HA ⊢
                  clear cc cf
                  refine hK.out _ _ (hSn) (fun hSn => ?_)
                  clear hK K hS
                  have hS := hSn
                  clear hSn
                  try simp only [Act.put, List.setIfInBounds_toArray, List.set_cons_zero, List.set_cons_succ, List.getElem_toArray, List.getElem_cons_succ, List.getElem_cons_zero]
                  refine wpAnyH_take (i := 12) (v := ?_) rfl (by kernel_rfl) (by kernel_rfl) (by kernel_rfl) (fun _ _ _ h => h) (Or.inl ⟨by rfl, ?_⟩) hS ?_
                  rotate_left
                  · intro wz hz; go_simp; try with_reducible rfl
                  try simp only [Act.put, List.setIfInBounds_toArray, List.set_cons_zero, List.set_cons_succ, List.getElem_toArray, List.getElem_cons_succ, List.getElem_cons_zero]
                  refine wpAnyH_done (by kernel_rfl) ?_ _
            case' a27_10 =>
              go_simp
              have B7 : Hid (Arr (wc3.alloc (.cells #[.int .i64 0, .int .i64 0, .slice none 0 0] 24)) wc3.heap.size 24 [.int .i64 0, .int .i64 0, .slice none 0 0]) := ⟨heap_alloc_at _ _⟩
              have hbn : Below wc3.heap.size wc3 (wc3.alloc (.cells #[.int .i64 0, .int .i64 0, .slice none 0 0] 24)) := bl_alloc (Below.refl _ _) _
              have hSn := bl_tr hS hbn
              have q7 : W1.heap.size ≤ wc3.heap.size := hS.size
              have eRT : ¬ pRT = wc3.heap.size := by have := RT.out.lt; omega
              have eRN : ¬ pRN = wc3.heap.size := by have := RN.out.lt; omega
              have RT := hid (RT.out.stays hbn)
              have RN := hid (RN.out.stays hbn)
              generalize hwn : wc3.alloc (.cells #[.int .i64 0, .int .i64 0, .slice none 0 0] 24) = wc4 at B7 hSn RT RN ⊢
              generalize hp : wc3.heap.size = pB7 at B7  q7 eRT eRN ⊢
              clear hbn hwn hp
              refine hK.out _ _ (hSn) (fun hSn => ?_)
              clear hK K hS
              have hS := hSn
              clear hSn
              try simp only [Act.put, List.setIfInBounds_toArray, List.set_cons_zero, List.set_cons_succ, List.getElem_toArray, List.getElem_cons_succ, List.getElem_cons_zero]
              refine wpAnyH_ready (rs := [6]) (by kernel_rfl) (by simp) (AllReadyH.cons rfl (fun K hK => ?a30_6) AllReadyH.nil)
              case' a30_6 =>
                go_simp
                refine (hP3.out wc4 pRN pRT hS RN.out RT.out).mono ?_
                rintro e wc5 ⟨vs6, n6, rfl, hT6, hb⟩
                obtain ⟨a6, c6, rfl⟩ := hT6.form
                have HA : Hid (TAt wc5 (fun b => b ≠ pB7) n6 _ ra) := hT6.move (Keeps.refl _ _) (fun b (hb : wc4.heap.size ≤ b) => by have := B7.out.lt; show b ≠ _; omega)
                clear hT6
                have RT := hid (RT.out.stays hb)
                have RN := hid (RN.out.stays hb)
                have B7 := hid (B7.out.stays hb)
                refine hK.out _ _ (bl_tr hS hb) (fun hSn => ?_)
                clear hK K hS
                have hS := hSn
                clear hSn
                try simp only [Act.put, List.setIfInBounds_toArray, List.set_cons_zero, List.set_cons_succ, List.getElem_toArray, List.getElem_cons_succ, List.getElem_cons_zero]
                clear hb
                refine wpAnyH_take (i := 7) (v := ?_) rfl (by kernel_rfl) (by kernel_rfl) (by kernel_rfl) (fun _ _ _ h => h) (Or.inl ⟨by rfl, ?_⟩) hS ?_
                rotate_left
                · intro wz hz; go_simp; try with_reducible rfl
                try simp only [Act.put, List.setIfInBounds_toArray, List.set_cons_zero, List.set_cons_succ, List.getElem_toArray, List.getElem_cons_succ, List.getElem_cons_zero]
                refine wpAnyH_take (i := 8) (v := ?_) rfl (by kernel_rfl) (by kernel_rfl) (by kernel_rfl) (fun _ _ _ h => h) (Or.inl ⟨by rfl, ?_⟩) hS ?_
                rotate_left
                · intro wz hz; go_simp; try with_reducible rfl
                try simp only [Act.put, List.setIfInBounds_toArray, List.set_cons_zero, List.set_cons_succ, List.getElem_toArray, List.getElem_cons_succ, List.getElem_cons_zero]
                refine wpAnyH_take (i := 9) (v := ?_) rfl (by kernel_rfl) (by kernel_rfl) (by kernel_rfl) (fun _ _ _ h => h) (Or.inl ⟨by rfl, ?_⟩) hS ?_
                rotate_left
                · intro wz hz; go_simp; try with_reducible rfl
                try simp only [Act.put, List.setIfInBounds_toArray, List.set_cons_zero, List.set_cons_succ, List.getElem_toArray, List.getElem_cons_succ, List.getElem_cons_zero]
                refine wpAnyH_ready (rs := [11]) (by kernel_rfl) (by simp) (AllReadyH.cons rfl (fun K hK => ?a31_11) AllReadyH.nil)
                case' a31_11 =>
                  go_simp
                  have cc := B7.out.cell
                  have cf := B7.out.frozen
                  go_simp
                  have HA : Hid (TAt (((wc5.setCell ⟨pB7, 0, none⟩ (.int .i64 ra.k)).setCell ⟨pB7, 1, none⟩ (.int .i64 ra.n)).setCell ⟨pB7, 2, none⟩ (.slice a6 ra.ks.length c6)) Any n6 _ ra) := HA.out.move (keeps3 wc5 pB7 _ _ _) (fun _ _ => trivial)
                  have B7 := hid (((B7.out.set 0 (.int .i64 ra.k)).set 1 (.int .i64 ra.n)).set 2 (.slice a6 ra.ks.length c6))
                  simp only [List.set_cons_zero, List.set_cons_succ] at B7
                  have hSn : Below W1.heap.size W1 (((wc5.setCell ⟨pB7, 0, none⟩ (.int .i64 ra.k)).setCell ⟨pB7, 1, none⟩ (.int .i64 ra.n)).setCell ⟨pB7, 2, none⟩ (.slice a6 ra.ks.length c6)) := (bl_set ⟨pB7, 2, none⟩ (.slice a6 ra.ks.length c6) (bl_set ⟨pB7, 1, none⟩ (.int .i64 ra.n) (bl_set ⟨pB7, 0, none⟩ (.int .i64 ra.k) hS q7) q7) q7)
                  generalize (((wc5.setCell ⟨pB7, 0, none⟩ (.int .i64 ra.k)).setCell ⟨pB7, 1, none⟩ (.int .i64 ra.n)).setCell ⟨pB7, 2, none⟩ (.slice a6 ra.ks.length c6)) = wc6 at B7 hSn HA ⊢
                  clear cc cf
                  refine hK.out _ _ (hSn) (fun hSn => ?_)
                  clear hK K hS
                  have hS := hSn
                  clear hSn
                  try simp only [Act.put, List.setIfInBounds_toArray, List.set_cons_zero, List.set_cons_succ, List.getElem_toArray, List.getElem_cons_succ, List.getElem_cons_zero]
                  refine wpAnyH_take (i := 12) (v := ?_) rfl (by kernel_rfl) (by kernel_rfl) (by kernel_rfl) (fun _ _ _ h => h) (Or.inl ⟨by rfl, ?_⟩) hS ?_
                  rotate_left
                  · intro wz hz; go_simp; try with_reducible rfl
                  try simp only [Act.put, List.setIfInBounds_toArray, List.set_cons_zero, List.set_cons_succ, List.getElem_toArray, List.getElem_cons_succ, List.getElem_cons_zero]
                  refine wpAnyH_done (by kernel_rfl) ?_ _
          case' a26_10 =>
            go_simp
            have B7 : Hid (Arr (wc2.alloc (.cells #[.int .i64 0, .int .i64 0, .slice none 0 0] 24)) wc2.heap.size 24 [.int .i64 0, .int .i64 0, .slice none 0 0]) := ⟨heap_alloc_at _ _⟩
            have hbn : Below wc2.heap.size wc2 (wc2.alloc (.cells #[.int .i64 0, .int .i64 0, .slice none 0 0] 24)) := bl_alloc (Below.refl _ _) _
            have hSn := bl_tr hS hbn
            have q7 : W1.heap.size ≤ wc2.heap.size := hS.size
            have eRT : ¬ pRT = wc2.heap.size := by have := RT.out.lt; omega
            have RT := hid (RT.out.stays hbn)
            generalize hwn : wc2.alloc (.cells #[.int .i64 0, .int .i64 0, .slice none 0 0] 24) = wc3 at B7 hSn RT ⊢
            generalize hp : wc2.heap.size = pB7 at B7  q7 eRT ⊢
            clear hbn hwn hp
            refine hK.out _ _ (hSn) (fun hSn => ?_)
            clear hK K hS
            have hS := hSn
            clear hSn
            try simp only [Act.put, List.setIfInBounds_toArray, List.set_cons_zero, List.set_cons_succ, List.getElem_toArray, List.getElem_cons_succ, List.getElem_cons_zero]
            refine wpAnyH_ready (rs := [2]) (by kernel_rfl) (by simp) (AllReadyH.cons rfl (fun K hK => ?a32_2) AllReadyH.nil)
            case' a32_2 =>
              go_simp
              have RN : Hid (Arr (wc3.alloc (.cells #[.int .i64 n] 3)) wc3.heap.size 3 [.int .i64 n]) := ⟨heap_alloc_at _ _⟩
              have hbn : Below wc3.heap.size wc3 (wc3.alloc (.cells #[.int .i64 n] 3)) := bl_alloc (Below.refl _ _) _
              have hSn := bl_tr hS hbn
              have eRN : ¬ wc3.heap.size = pB7 := by have := B7.out.lt; omega
              have RT := hid (RT.out.stays hbn)
              have B7 := hid (B7.out.stays hbn)
              generalize hwn : wc3.alloc (.cells #[.int .i64 n] 3) = wc4 at RN hSn RT B7 ⊢
              generalize hp : wc3.heap.size = pRN at RN  eRN ⊢
              clear hbn hwn hp
              refine hK.out _ _ (hSn) (fun hSn => ?_)
              clear hK K hS
              have hS := hSn
              clear hSn
              try simp only [Act.put, List.setIfInBounds_toArray, List.set_cons_zero, List.set_cons_succ, List.getElem_toArray, List.getElem_cons_succ, List.getElem_cons_zero]
              refine wpAnyH_ready (rs := [6]) (by kernel_rfl) (by simp) (AllReadyH.cons rfl (fun K hK => ?a33_6) AllReadyH.nil)
              case' a33_6 =>
                go_simp
                refine (hP3.out wc4 pRN pRT hS RN.out RT.out).mono ?_
                rintro e wc5 ⟨vs6, n6, rfl, hT6, hb⟩
                obtain ⟨a6, c6, rfl⟩ := hT6.form
                have HA : Hid (TAt wc5 (fun b => b ≠ pB7) n6 _ ra) := hT6.move (Keeps.refl _ _) (fun b (hb : wc4.heap.size ≤ b) => by have := B7.out.lt; show b ≠ _; omega)
                clear hT6
                have RT := hid (RT.out.stays hb)
                have B7 := hid (B7.out.stays hb)
                have RN := hid (RN.out.stays hb)
                refine hK.out _ _ (bl_tr hS hb) (fun hSn => ?_)
                clear hK K hS
                have hS := hSn
                clear hSn
                try simp only [Act.put, List.setIfInBounds_toArray, List.set_cons_zero, List.set_cons_succ, List.getElem_toArray, List.getElem_cons_succ, List.getElem_cons_zero]
                clear hb
                refine wpAnyH_take (i := 7) (v := ?_) rfl (by kernel_rfl) (by kernel_rfl) (by kernel_rfl) (fun _ _ _ h => h) (Or.inl ⟨by rfl, ?_⟩) hS ?_
                rotate_left
                · intro wz hz; go_simp; try with_reducible rfl
                try simp only [Act.put, List.setIfInBounds_toArray, List.set_cons_zero, List.set_cons_succ, List.getElem_toArray, List.getElem_cons_succ, List.getElem_cons_zero]
                refine wpAnyH_take (i := 8) (v := ?_) rfl (by kernel_rfl) (by kernel_rfl) (by kernel_rfl) (fun _ _ _ h => h) (Or.inl ⟨by rfl, ?_⟩) hS ?_
                rotate_left
                · intro wz hz; go_simp; try with_reducible rfl
                try simp only [Act.put, List.setIfInBounds_toArray, List.set_cons_zero, List.set_cons_succ, List.getElem_toArray, List.getElem_cons_succ, List.getElem_cons_zero]
                refine wpAnyH_take (i := 9) (v := ?_) rfl (by kernel_rfl) (by kernel_rfl) (by kernel_rfl) (fun _ _ _ h => h) (Or.inl ⟨by rfl, ?_⟩) hS ?_
                rotate_left
                · intro wz hz; go_simp; try with_reducible rfl
                try simp only [Act.put, List.setIfInBounds_toArray, List.set_cons_zero, List.set_cons_succ, List.getElem_toArray, List.getElem_cons_succ, List.getElem_cons_zero]
                refine wpAnyH_ready (rs := [11]) (by kernel_rfl) (by simp) (AllReadyH.cons rfl (fun K hK => ?a34_11) AllReadyH.nil)
                case' a34_11 =>
                  go_simp
                  have cc := B7.out.cell
                  have cf := B7.out.frozen
                  go_simp
                  have HA : Hid (TAt (((wc5.setCell ⟨pB7, 0, none⟩ (.int .i64 ra.k)).setCell ⟨pB7, 1, none⟩ (.int .i64 ra.n)).setCell ⟨pB7, 2, none⟩ (.slice a6 ra.ks.length c6)) Any n6 _ ra) := HA.out.move (keeps3 wc5 pB7 _ _ _) (fun _ _ => trivial)
                  have B7 := hid (((B7.out.set 0 (.int .i64 ra.k)).set 1 (.int .i64 ra.n)).set 2 (.slice a6 ra.ks.length c6))
                  simp only [List.set_cons_zero, List.set_cons_succ] at B7
                  have hSn : Below W1.heap.size W1 (((wc5.setCell ⟨pB7, 0, none⟩ (.int .i64 ra.k)).setCell ⟨pB7, 1, none⟩ (.int .i64 ra.n)).setCell ⟨pB7, 2, none⟩ (.slice a6 ra.ks.length c6)) := (bl_set ⟨pB7, 2, none⟩ (.slice a6 ra.ks.length c6) (bl_set ⟨pB7, 1, none⟩ (.int .i64 ra.n) (bl_set ⟨pB7, 0, none⟩ (.int .i64 ra.k) hS q7) q7) q7)
                  generalize (((wc5.setCell ⟨pB7, 0, none⟩ (.int .i64 ra.k)).setCell ⟨pB7, 1, none⟩ (.int .i64 ra.n)).setCell ⟨pB7, 2, none⟩ (.slice a6 ra.ks.length c6)) = wc6 at B7 hSn HA ⊢
                  clear cc cf
                  refine hK.out _ _ (hSn) (fun hSn => ?_)
                  clear hK K hS
                  have hS := hSn
                  clear hSn
                  try simp only [Act.put, List.setIfInBounds_toArray, List.set_cons_zero, List.set_cons_succ, List.getElem_toArray, List.getElem_cons_succ, List.getElem_cons_zero]
                  refine wpAnyH_take (i := 12) (v := ?_) rfl (by kernel_rfl) (by kernel_rfl) (by kernel_rfl) (fun _ _ _ h => h) (Or.inl ⟨by rfl, ?_⟩) hS ?_
                  rotate_left
                  · intro wz hz; go_simp; try with_reducible rfl
                  try simp only [Act.put, List.setIfInBounds_toArray, List.set_cons_zero, List.set_cons_succ, List.getElem_toArray, List.getElem_cons_succ, List.getElem_cons_zero]
                  refine wpAnyH_done (by kernel_rfl) ?_ _
        case' a16_10 =>
          go_simp
          have B7 : Hid (Arr (wc1.alloc (.cells #[.int .i64 0, .int .i64 0, .slice none 0 0] 24)) wc1.heap.size 24 [.int .i64 0, .int .i64 0, .slice none 0 0]) := ⟨heap_alloc_at _ _⟩
          have hbn : Below wc1.heap.size wc1 (wc1.alloc (.cells #[.int .i64 0, .int .i64 0, .slice none 0 0] 24)) := bl_alloc (Below.refl _ _) _
          have hSn := bl_tr hS hbn
          have q7 : W1.heap.size ≤ wc1.heap.size := hS.size
          generalize hwn : wc1.alloc (.cells #[.int .i64 0, .int .i64 0, .slice none 0 0] 24) = wc2 at B7 hSn  ⊢
          generalize hp : wc1.heap.size = pB7 at B7  q7 ⊢
          clear hbn hwn hp
          refine hK.out _ _ (hSn) (fun hSn => ?_)
          clear hK K hS
          have hS := hSn
          clear hSn
          try simp only [Act.put, List.setIfInBounds_toArray, List.set_cons_zero, List.set_cons_succ, List.getElem_toArray, List.getElem_cons_succ, List.getElem_cons_zero]
          refine wpAnyH_ready (rs := [2, 5]) (by kernel_rfl) (by simp) (AllReadyH.cons rfl (fun K hK => ?a35_2) (AllReadyH.cons rfl (fun K hK => ?a35_5) AllReadyH.nil))
          case' a35_2 =>
            go_simp
            have RN : Hid (Arr (wc2.alloc (.cells #[.int .i64 n] 3)) wc2.heap.size 3 [.int .i64 n]) := ⟨heap_alloc_at _ _⟩
            have hbn : Below wc2.heap.size wc2 (wc2.alloc (.cells #[.int .i64 n] 3)) := bl_alloc (Below.refl _ _) _
            have hSn := bl_tr hS hbn
            have eRN : ¬ wc2.heap.size = pB7 := by have := B7.out.lt; omega
            have B7 := hid (B7.out.stays hbn)
            generalize hwn : wc2.alloc (.cells #[.int .i64 n] 3) = wc3 at RN hSn B7 ⊢
            generalize hp : wc2.heap.size = pRN at RN  eRN ⊢
            clear hbn hwn hp
            refine hK.out _ _ (hSn) (fun hSn => ?_)
            clear hK K hS
            have hS := hSn
            clear hSn
            try simp only [Act.put, List.setIfInBounds_toArray, List.set_cons_zero, List.set_cons_succ, List.getElem_toArray, List.getElem_cons_succ, List.getElem_cons_zero]
            refine wpAnyH_ready (rs := [5]) (by kernel_rfl) (by simp) (AllReadyH.cons rfl (fun K hK => ?a36_5) AllReadyH.nil)
            case' a36_5 =>
              go_simp
              have RT : Hid (Arr (wc3.alloc (.cells #[.int .i64 6, .int .i64 n, .slice none 0 0] 24)) wc3.heap.size 24 [.int .i64 6, .int .i64 n, .slice none 0 0]) := ⟨heap_alloc_at _ _⟩
              have hbn : Below wc3.heap.size wc3 (wc3.alloc (.cells #[.int .i64 6, .int .i64 n, .slice none 0 0] 24)) := bl_alloc (Below.refl _ _) _
              have hSn := bl_tr hS hbn
              have eRT : ¬ wc3.heap.size = pB7 := by have := B7.out.lt; omega
              have B7 := hid (B7.out.stays hbn)
              have RN := hid (RN.out.stays hbn)
              generalize hwn : wc3.alloc (.cells #[.int .i64 6, .int .i64 n, .slice none 0 0] 24) = wc4 at RT hSn B7 RN ⊢
              generalize hp : wc3.heap.size = pRT at RT  eRT ⊢
              clear hbn hwn hp
              refine hK.out _ _ (hSn) (fun hSn => ?_)
              clear hK K hS
              have hS := hSn
              clear hSn
              try simp only [Act.put, List.setIfInBounds_toArray, List.set_cons_zero, List.set_cons_succ, List.getElem_toArray, List.getElem_cons_succ, List.getElem_cons_zero]
              refine wpAnyH_ready (rs := [6]) (by kernel_rfl) (by simp) (AllReadyH.cons rfl (fun K hK => ?a37_6) AllReadyH.nil)
              case' a37_6 =>
                go_simp
                refine (hP3.out wc4 pRN pRT hS RN.out RT.out).mono ?_
                rintro e wc5 ⟨vs6, n6, rfl, hT6, hb⟩
                obtain ⟨a6, c6, rfl⟩ := hT6.form
                have HA : Hid (TAt wc5 (fun b => b ≠ pB7) n6 _ ra) := hT6.move (Keeps.refl _ _) (fun b (hb : wc4.heap.size ≤ b) => by have := B7.out.lt; show b ≠ _; omega)
                clear hT6
                have B7 := hid (B7.out.stays hb)
                have RN := hid (RN.out.stays hb)
                have RT := hid (RT.out.stays hb)
                refine hK.out _ _ (bl_tr hS hb) (fun hSn => ?_)
                clear hK K hS
                have hS := hSn
                clear hSn
                try simp only [Act.put, List.setIfInBounds_toArray, List.set_cons_zero, List.set_cons_succ, List.getElem_toArray, List.getElem_cons_succ, List.getElem_cons_zero]
                clear hb
                refine wpAnyH_take (i := 7) (v := ?_) rfl (by kernel_rfl) (by kernel_rfl) (by kernel_rfl) (fun _ _ _ h => h) (Or.inl ⟨by rfl, ?_⟩) hS ?_
                rotate_left
                · intro wz hz; go_simp; try with_reducible rfl
                try simp only [Act.put, List.setIfInBounds_toArray, List.set_cons_zero, List.set_cons_succ, List.getElem_toArray, List.getElem_cons_succ, List.getElem_cons_zero]
                refine wpAnyH_take (i := 8) (v := ?_) rfl (by kernel_rfl) (by kernel_rfl) (by kernel_rfl) (fun _ _ _ h => h) (Or.inl ⟨by rfl, ?_⟩) hS ?_
                rotate_left
                · intro wz hz; go_simp; try with_reducible rfl
                try simp only [Act.put, List.setIfInBounds_toArray, List.set_cons_zero, List.set_cons_succ, List.getElem_toArray, List.getElem_cons_succ, List.getElem_cons_zero]
                refine wpAnyH_take (i := 9) (v := ?_) rfl (by kernel_rfl) (by kernel_rfl) (by kernel_rfl) (fun _ _ _ h => h) (Or.inl ⟨by rfl, ?_⟩) hS ?_
                rotate_left
                · intro wz hz; go_simp; try with_reducible rfl
                try simp only [Act.put, List.setIfInBounds_toArray, List.set_cons_zero, List.set_cons_succ, List.getElem_toArray, List.getElem_cons_succ, List.getElem_cons_zero]
                refine wpAnyH_ready (rs := [11]) (by kernel_rfl) (by simp) (AllReadyH.cons rfl (fun K hK => ?a38_11) AllReadyH.nil)
                case' a38_11 =>
                  go_simp
                  have cc := B7.out.cell
                  have cf := B7.out.frozen
                  go_simp
                  have HA : Hid (TAt (((wc5.setCell ⟨pB7, 0, none⟩ (.int .i64 ra.k)).setCell ⟨pB7, 1, none⟩ (.int .i64 ra.n)).setCell ⟨pB7, 2, none⟩ (.slice a6 ra.ks.length c6)) Any n6 _ ra) := HA.out.move (keeps3 wc5 pB7 _ _ _) (fun _ _ => trivial)
                  have B7 := hid (((B7.out.set 0 (.int .i64 ra.k)).set 1 (.int .i64 ra.n)).set 2 (.slice a6 ra.ks.length c6))
                  simp only [List.set_cons_zero, List.set_cons_succ] at B7
                  have hSn : Below W1.heap.size W1 (((wc5.setCell ⟨pB7, 0, none⟩ (.int .i64 ra.k)).setCell ⟨pB7, 1, none⟩ (.int .i64 ra.n)).setCell ⟨pB7, 2, none⟩ (.slice a6 ra.ks.length c6)) := (bl_set ⟨pB7, 2, none⟩ (.slice a6 ra.ks.length c6) (bl_set ⟨pB7, 1, none⟩ (.int .i64 ra.n) (bl_set ⟨pB7, 0, none⟩ (.int .i64 ra.k) hS q7) q7) q7)
                  generalize (((wc5.setCell ⟨pB7, 0, none⟩ (.int .i64 ra.k)).setCell ⟨pB7, 1, none⟩ (.int .i64 ra.n)).setCell ⟨pB7, 2, none⟩ (.slice a6 ra.ks.length c6)) = wc6 at B7 hSn HA ⊢
                  clear cc cf
                  refine hK.out _ _ (hSn) (fun hSn => ?_)
                  clear hK K hS
                  have hS := hSn
                  clear hSn
                  try simp only [Act.put, List.setIfInBounds_toArray, List.set_cons_zero, List.set_cons_succ, List.getElem_toArray, List.getElem_cons_succ, List.getElem_cons_zero]
                  refine wpAnyH_take (i := 12) (v := ?_) rfl (by kernel_rfl) (by kernel_rfl) (by kernel_rfl) (fun _ _ _ h => h) (Or.inl ⟨by rfl, ?_⟩) hS ?_
                  rotate_left
                  · intro wz hz; go_simp; try with_reducible rfl
                  try simp only [Act.put, List.setIfInBounds_toArray, List.set_cons_zero, List.set_cons_succ, List.getElem_toArray, List.getElem_cons_succ, List.getElem_cons_zero]
                  refine wpAnyH_done (by kernel_rfl) ?_ _
          case' a35_5 =>
            go_simp
            have RT : Hid (Arr (wc2.alloc (.cells #[.int .i64 6, .int .i64 n, .slice none 0 0] 24)) wc2.heap.size 24 [.int .i64 6, .int .i64 n, .slice none 0 0]) := ⟨heap_alloc_at _ _⟩
            have hbn : Below wc2.heap.size wc2 (wc2.alloc (.cells #[.int .i64 6, .int .i64 n, .slice none 0 0] 24)) := bl_alloc (Below.refl _ _) _
            have hSn := bl_tr hS hbn
            have eRT : ¬ wc2.heap.size = pB7 := by have := B7.out.lt; omega
            have B7 := hid (B7.out.stays hbn)
            generalize hwn : wc2.alloc (.cells #[.int .i64 6, .int .i64 n, .slice none 0 0] 24) = wc3 at RT hSn B7 ⊢
            generalize hp : wc2.heap.size = pRT at RT  eRT ⊢
            clear hbn hwn hp
            refine hK.out _ _ (hSn) (fun hSn => ?_)
            clear hK K hS
            have hS := hSn
            clear hSn
            try simp only [Act.put, List.setIfInBounds_toArray, List.set_cons_zero, List.set_cons_succ, List.getElem_toArray, List.getElem_cons_succ, List.getElem_cons_zero]
            refine wpAnyH_ready (rs := [2]) (by kernel_rfl) (by simp) (AllReadyH.cons rfl (fun K hK => ?a39_2) AllReadyH.nil)
            case' a39_2 =>
              go_simp
              have RN : Hid (Arr (wc3.alloc (.cells #[.int .i64 n] 3)) wc3.heap.size 3 [.int .i64 n]) := ⟨heap_alloc_at _ _⟩
              have hbn : Below wc3.heap.size wc3 (wc3.alloc (.cells #[.int .i64 n] 3)) := bl_alloc (Below.refl _ _) _
              have hSn := bl_tr hS hbn
              have eRN : ¬ wc3.heap.size = pB7 := by have := B7.out.lt; omega
              have B7 := hid (B7.out.stays hbn)
              have RT := hid (RT.out.stays hbn)
              generalize hwn : wc3.alloc (.cells #[.int .i64 n] 3) = wc4 at RN hSn B7 RT ⊢
              generalize hp : wc3.heap.size = pRN at RN  eRN ⊢
              clear hbn hwn hp
              refine hK.out _ _ (hSn) (fun hSn => ?_)
              clear hK K hS
              have hS := hSn
              clear hSn
              try simp only [Act.put, List.setIfInBounds_toArray, List.set_cons_zero, List.set_cons_succ, List.getElem_toArray, List.getElem_cons_succ, List.getElem_cons_zero]
              refine wpAnyH_ready (rs := [6]) (by kernel_rfl) (by simp) (AllReadyH.cons rfl (fun K hK => ?a40_6) AllReadyH.nil)
              case' a40_6 =>
                go_simp
                refine (hP3.out wc4 pRN pRT hS RN.out RT.out).mono ?_
                rintro e wc5 ⟨vs6, n6, rfl, hT6, hb⟩
                obtain ⟨a6, c6, rfl⟩ := hT6.form
                have HA : Hid (TAt wc5 (fun b => b ≠ pB7) n6 _ ra) := hT6.move (Keeps.refl _ _) (fun b (hb : wc4.heap.size ≤ b) => by have := B7.out.lt; show b ≠ _; omega)
                clear hT6
                have B7 := hid (B7.out.stays hb)
                have RT := hid (RT.out.stays hb)
                have RN := hid (RN.out.stays hb)
                refine hK.out _ _ (bl_tr hS hb) (fun hSn => ?_)
                clear hK K hS
                have hS := hSn
                clear hSn
                try simp only [Act.put, List.setIfInBounds_toArray, List.set_cons_zero, List.set_cons_succ, List.getElem_toArray, List.getElem_cons_succ, List.getElem_cons_zero]
                clear hb
                refine wpAnyH_take (i := 7) (v := ?_) rfl (by kernel_rfl) (by kernel_rfl) (by kernel_rfl) (fun _ _ _ h => h) (Or.inl ⟨by rfl, ?_⟩) hS ?_
                rotate_left
                · intro wz hz; go_simp; try with_reducible rfl
                try simp only [Act.put, List.setIfInBounds_toArray, List.set_cons_zero, List.set_cons_succ, List.getElem_toArray, List.getElem_cons_succ, List.getElem_cons_zero]
                refine wpAnyH_take (i := 8) (v := ?_) rfl (by kernel_rfl) (by kernel_rfl) (by kernel_rfl) (fun _ _ _ h => h) (Or.inl ⟨by rfl, ?_⟩) hS ?_
                rotate_left
                · intro wz hz; go_simp; try with_reducible rfl
                try simp only [Act.put, List.setIfInBounds_toArray, List.set_cons_zero, List.set_cons_succ, List.getElem_toArray, List.getElem_cons_succ, List.getElem_cons_zero]
                refine wpAnyH_take (i := 9) (v := ?_) rfl (by kernel_rfl) (by kernel_rfl) (by kernel_rfl) (fun _ _ _ h => h) (Or.inl ⟨by rfl, ?_⟩) hS ?_
                rotate_left
                · intro wz hz; go_simp; try with_reducible rfl
                try simp only [Act.put, List.setIfInBounds_toArray, List.set_cons_zero, List.set_cons_succ, List.getElem_toArray, List.getElem_cons_succ, List.getElem_cons_zero]
                refine wpAnyH_ready (rs := [11]) (by kernel_rfl) (by simp) (AllReadyH.cons rfl (fun K hK => ?a41_11) AllReadyH.nil)
                case' a41_11 =>
                  go_simp
                  have cc := B7.out.cell
                  have cf := B7.out.frozen
                  go_simp
                  have HA : Hid (TAt (((wc5.setCell ⟨pB7, 0, none⟩ (.int .i64 ra.k)).setCell ⟨pB7, 1, none⟩ (.int .i64 ra.n)).setCell ⟨pB7, 2, none⟩ (.slice a6 ra.ks.length c6)) Any n6 _ ra) := HA.out.move (keeps3 wc5 pB7 _ _ _) (fun _ _ => trivial)
                  have B7 := hid (((B7.out.set 0 (.int .i64 ra.k)).set 1 (.int .i64 ra.n)).set 2 (.slice a6 ra.ks.length c6))
                  simp only [List.set_cons_zero, List.set_cons_succ] at B7
                  have hSn : Below W1.heap.size W1 (((wc5.setCell ⟨pB7, 0, none⟩ (.int .i64 ra.k)).setCell ⟨pB7, 1, none⟩ (.int .i64 ra.n)).setCell ⟨pB7, 2, none⟩ (.slice a6 ra.ks.length c6)) := (bl_set ⟨pB7, 2, none⟩ (.slice a6 ra.ks.length c6) (bl_set ⟨pB7, 1, none⟩ (.int .i64 ra.n) (bl_set ⟨pB7, 0, none⟩ (.int .i64 ra.k) hS q7) q7) q7)
                  generalize (((wc5.setCell ⟨pB7, 0, none⟩ (.int .i64 ra.k)).setCell ⟨pB7, 1, none⟩ (.int .i64 ra.n)).setCell ⟨pB7, 2, none⟩ (.slice a6 ra.ks.length c6)) = wc6 at B7 hSn HA ⊢
                  clear cc cf
                  refine hK.out _ _ (hSn) (fun hSn => ?_)
                  clear hK K hS
                  have hS := hSn
                  clear hSn
                  try simp only [Act.put, List.setIfInBounds_toArray, List.set_cons_zero, List.set_cons_succ, List.getElem_toArray, List.getElem_cons_succ, List.getElem_cons_zero]
                  refine wpAnyH_take (i := 12) (v := ?_) rfl (by kernel_rfl) (by kernel_rfl) (by kernel_rfl) (fun _ _ _ h => h) (Or.inl ⟨by rfl, ?_⟩) hS ?_
                  rotate_left
                  · intro wz hz; go_simp; try with_reducible rfl
                  try simp only [Act.put, List.setIfInBounds_toArray, List.set_cons_zero, List.set_cons_succ, List.getElem_toArray, List.getElem_cons_succ, List.getElem_cons_zero]
                  refine wpAnyH_done (by kernel_rfl) ?_ _
      case' a1_10 =>
        go_simp
        have B7 : Hid (Arr (wc0.alloc (.cells #[.int .i64 0, .int .i64 0, .slice none 0 0] 24)) wc0.heap.size 24 [.int .i64 0, .int .i64 0, .slice none 0 0]) := ⟨heap_alloc_at _ _⟩
        have hbn : Below wc0.heap.size wc0 (wc0.alloc (.cells #[.int .i64 0, .int .i64 0, .slice none 0 0] 24)) := bl_alloc (Below.refl _ _) _
        have hSn := bl_tr hS hbn
        have q7 : W1.heap.size ≤ wc0.heap.size := hS.size
        generalize hwn : wc0.alloc (.cells #[.int .i64 0, .int .i64 0, .slice none 0 0] 24) = wc1 at B7 hSn  ⊢
        generalize hp : wc0.heap.size = pB7 at B7  q7 ⊢
        clear hbn hwn hp
        refine hK.out _ _ (hSn) (fun hSn => ?_)
        clear hK K hS
        have hS := hSn
        clear hSn
        try simp only [Act.put, List.setIfInBounds_toArray, List.set_cons_zero, List.set_cons_succ, List.getElem_toArray, List.getElem_cons_succ, List.getElem_cons_zero]
        refine wpAnyH_ready (rs := [2, 4]) (by kernel_rfl) (by simp) (AllReadyH.cons rfl (fun K hK => ?a42_2) (AllReadyH.cons rfl (fun K hK => ?a42_4) AllReadyH.nil))
        case' a42_2 =>
          go_simp
          have RN : Hid (Arr (wc1.alloc (.cells #[.int .i64 n] 3)) wc1.heap.size 3 [.int .i64 n]) := ⟨heap_alloc_at _ _⟩
          have hbn : Below wc1.heap.size wc1 (wc1.alloc (.cells #[.int .i64 n] 3)) := bl_alloc (Below.refl _ _) _
          have hSn := bl_tr hS hbn
          have eRN : ¬ wc1.heap.size = pB7 := by have := B7.out.lt; omega
          have B7 := hid (B7.out.stays hbn)
          generalize hwn : wc1.alloc (.cells #[.int .i64 n] 3) = wc2 at RN hSn B7 ⊢
          generalize hp : wc1.heap.size = pRN at RN  eRN ⊢
          clear hbn hwn hp
          refine hK.out _ _ (hSn) (fun hSn => ?_)
          clear hK K hS
          have hS := hSn
          clear hSn
          try simp only [Act.put, List.setIfInBounds_toArray, List.set_cons_zero, List.set_cons_succ, List.getElem_toArray, List.getElem_cons_succ, List.getElem_cons_zero]
          refine wpAnyH_ready (rs := [4]) (by kernel_rfl) (by simp) (AllReadyH.cons rfl (fun K hK => ?a43_4) AllReadyH.nil)
          case' a43_4 =>
            go_simp
            refine (stamp_any wc2 n).mono ?_
            rintro e wc3 ⟨rfl, hb⟩
            have B7 := hid (B7.out.stays hb)
            have RN := hid (RN.out.stays hb)
            refine hK.out _ _ (bl_tr hS hb) (fun hSn => ?_)
            clear hK K hS
            have hS := hSn
            clear hSn
            try simp only [Act.put, List.setIfInBounds_toArray, List.set_cons_zero, List.set_cons_succ, List.getElem_toArray, List.getElem_cons_succ, List.getElem_cons_zero]
            clear hb
            refine wpAnyH_ready (rs := [5]) (by kernel_rfl) (by simp) (AllReadyH.cons rfl (fun K hK => ?a44_5) AllReadyH.nil)
            case' a44_5 =>
              go_simp
              have RT : Hid (Arr (wc3.alloc (.cells #[.int .i64 6, .int .i64 n, .slice none 0 0] 24)) wc3.heap.size 24 [.int .i64 6, .int .i64 n, .slice none 0 0]) := ⟨heap_alloc_at _ _⟩
              have hbn : Below wc3.heap.size wc3 (wc3.alloc (.cells #[.int .i64 6, .int .i64 n, .slice none 0 0] 24)) := bl_alloc (Below.refl _ _) _
              have hSn := bl_tr hS hbn
              have eRT : ¬ wc3.heap.size = pB7 := by have := B7.out.lt; omega
              have B7 := hid (B7.out.stays hbn)
              have RN := hid (RN.out.stays hbn)
              generalize hwn : wc3.alloc (.cells #[.int .i64 6, .int .i64 n, .slice none 0 0] 24) = wc4 at RT hSn B7 RN ⊢
              generalize hp : wc3.heap.size = pRT at RT  eRT ⊢
              clear hbn hwn hp
              refine hK.out _ _ (hSn) (fun hSn => ?_)
              clear hK K hS
              have hS := hSn
              clear hSn
              try simp only [Act.put, List.setIfInBounds_toArray, List.set_cons_zero, List.set_cons_succ, List.getElem_toArray, List.getElem_cons_succ, List.getElem_cons_zero]
              refine wpAnyH_ready (rs := [6]) (by kernel_rfl) (by simp) (AllReadyH.cons rfl (fun K hK => ?a45_6) AllReadyH.nil)
              case' a45_6 =>
                go_simp
                refine (hP3.out wc4 pRN pRT hS RN.out RT.out).mono ?_
                rintro e wc5 ⟨vs6, n6, rfl, hT6, hb⟩
                obtain ⟨a6, c6, rfl⟩ := hT6.form
                have HA : Hid (TAt wc5 (fun b => b ≠ pB7) n6 _ ra) := hT6.move (Keeps.refl _ _) (fun b (hb : wc4.heap.size ≤ b) => by have := B7.out.lt; show b ≠ _; omega)
                clear hT6
                have B7 := hid (B7.out.stays hb)
                have RN := hid (RN.out.stays hb)
                have RT := hid (RT.out.stays hb)
                refine hK.out _ _ (bl_tr hS hb) (fun hSn => ?_)
                clear hK K hS
                have hS := hSn
                clear hSn
                try simp only [Act.put, List.setIfInBounds_toArray, List.set_cons_zero, List.set_cons_succ, List.getElem_toArray, List.getElem_cons_succ, List.getElem_cons_zero]
                clear hb
                refine wpAnyH_take (i := 7) (v := ?_) rfl (by kernel_rfl) (by kernel_rfl) (by kernel_rfl) (fun _ _ _ h => h) (Or.inl ⟨by rfl, ?_⟩) hS ?_
                rotate_left
                · intro wz hz; go_simp; try with_reducible rfl
                try simp only [Act.put, List.setIfInBounds_toArray, List.set_cons_zero, List.set_cons_succ, List.getElem_toArray, List.getElem_cons_succ, List.getElem_cons_zero]
                refine wpAnyH_take (i := 8) (v := ?_) rfl (by kernel_rfl) (by kernel_rfl) (by kernel_rfl) (fun _ _ _ h => h) (Or.inl ⟨by rfl, ?_⟩) hS ?_
                rotate_left
                · intro wz hz; go_simp; try with_reducible rfl
                try simp only [Act.put, List.setIfInBounds_toArray, List.set_cons_zero, List.set_cons_succ, List.getElem_toArray, List.getElem_cons_succ, List.getElem_cons_zero]
                refine wpAnyH_take (i := 9) (v := ?_) rfl (by kernel_rfl) (by kernel_rfl) (by kernel_rfl) (fun _ _ _ h => h) (Or.inl ⟨by rfl, ?_⟩) hS ?_
                rotate_left
                · intro wz hz; go_simp; try with_reducible rfl
                try simp only [Act.put, List.setIfInBounds_toArray, List.set_cons_zero, List.set_cons_succ, List.getElem_toArray, List.getElem_cons_succ, List.getElem_cons_zero]
                refine wpAnyH_ready (rs := [11]) (by kernel_rfl) (by simp) (AllReadyH.cons rfl (fun K hK => ?a46_11) AllReadyH.nil)
                case' a46_11 =>
                  go_simp
                  have cc := B7.out.cell
                  have cf := B7.out.frozen
                  go_simp
                  have HA : Hid (TAt (((wc5.setCell ⟨pB7, 0, none⟩ (.int .i64 ra.k)).setCell ⟨pB7, 1, none⟩ (.int .i64 ra.n)).setCell ⟨pB7, 2, none⟩ (.slice a6 ra.ks.length c6)) Any n6 _ ra) := HA.out.move (keeps3 wc5 pB7 _ _ _) (fun _ _ => trivial)
                  have B7 := hid (((B7.out.set 0 (.int .i64 ra.k)).set 1 (.int .i64 ra.n)).set 2 (.slice a6 ra.ks.length c6))
                  simp only [List.set_cons_zero, List.set_cons_succ] at B7
                  have hSn : Below W1.heap.size W1 (((wc5.setCell ⟨pB7, 0, none⟩ (.int .i64 ra.k)).setCell ⟨pB7, 1, none⟩ (.int .i64 ra.n)).setCell ⟨pB7, 2, none⟩ (.slice a6 ra.ks.length c6)) := (bl_set ⟨pB7, 2, none⟩ (.slice a6 ra.ks.length c6) (bl_set ⟨pB7, 1, none⟩ (.int .i64 ra.n) (bl_set ⟨pB7, 0, none⟩ (.int .i64 ra.k) hS q7) q7) q7)
                  generalize (((wc5.setCell ⟨pB7, 0, none⟩ (.int .i64 ra.k)).setCell ⟨pB7, 1, none⟩ (.int .i64 ra.n)).setCell ⟨pB7, 2, none⟩ (.slice a6 ra.ks.length c6)) = wc6 at B7 hSn HA ⊢
                  clear cc cf
                  refine hK.out _ _ (hSn) (fun hSn => ?_)
                  clear hK K hS
                  have hS := hSn
                  clear hSn
                  try simp only [Act.put, List.setIfInBounds_toArray, List.set_cons_zero, List.set_cons_succ, List.getElem_toArray, List.getElem_cons_succ, List.getElem_cons_zero]
                  refine wpAnyH_take (i := 12) (v := ?_) rfl (by kernel_rfl) (by kernel_rfl) (by kernel_rfl) (fun _ _ _ h => h) (Or.inl ⟨by rfl, ?_⟩) hS ?_
                  rotate_left
                  · intro wz hz; go_simp; try with_reducible rfl
                  try simp only [Act.put, List.setIfInBounds_toArray, List.set_cons_zero, List.set_cons_succ, List.getElem_toArray, List.getElem_cons_succ, List.getElem_cons_zero]
                  refine wpAnyH_done (by kernel_rfl) ?_ _
        case' a42_4 =>
          go_simp
          refine (stamp_any wc1 n).mono ?_
          rintro e wc2 ⟨rfl, hb⟩
          have B7 := hid (B7.out.stays hb)
          refine hK.out _ _ (bl_tr hS hb) (fun hSn => ?_)
          clear hK K hS
          have hS := hSn
          clear hSn
          try simp only [Act.put, List.setIfInBounds_toArray, List.set_cons_zero, List.set_cons_succ, List.getElem_toArray, List.getElem_cons_succ, List.getElem_cons_zero]
          clear hb
          refine wpAnyH_ready (rs := [2, 5]) (by kernel_rfl) (by simp) (AllReadyH.cons rfl (fun K hK => ?a47_2) (AllReadyH.cons rfl (fun K hK => ?a47_5) AllReadyH.nil))
          case' a47_2 =>
            go_simp
            have RN : Hid (Arr (wc2.alloc (.cells #[.int .i64 n] 3)) wc2.heap.size 3 [.int .i64 n]) := ⟨heap_alloc_at _ _⟩
            have hbn : Below wc2.heap.size wc2 (wc2.alloc (.cells #[.int .i64 n] 3)) := bl_alloc (Below.refl _ _) _
            have hSn := bl_tr hS hbn
            have eRN : ¬ wc2.heap.size = pB7 := by have := B7.out.lt; omega
            have B7 := hid (B7.out.stays hbn)
            generalize hwn : wc2.alloc (.cells #[.int .i64 n] 3) = wc3 at RN hSn B7 ⊢
            generalize hp : wc2.heap.size = pRN at RN  eRN ⊢
            clear hbn hwn hp
            refine hK.out _ _ (hSn) (fun hSn => ?_)
            clear hK K hS
            have hS := hSn
            clear hSn
            try simp only [Act.put, List.setIfInBounds_toArray, List.set_cons_zero, List.set_cons_succ, List.getElem_toArray, List.getElem_cons_succ, List.getElem_cons_zero]
            refine wpAnyH_ready (rs := [5]) (by kernel_rfl) (by simp) (AllReadyH.cons rfl (fun K hK => ?a48_5) AllReadyH.nil)
            case' a48_5 =>
              go_simp
              have RT : Hid (Arr (wc3.alloc (.cells #[.int .i64 6, .int .i64 n, .slice none 0 0] 24)) wc3.heap.size 24 [.int .i64 6, .int .i64 n, .slice none 0 0]) := ⟨heap_alloc_at _ _⟩
              have hbn : Below wc3.heap.size wc3 (wc3.alloc (.cells #[.int .i64 6, .int .i64 n, .slice none 0 0] 24)) := bl_alloc (Below.refl _ _) _
              have hSn := bl_tr hS hbn
              have eRT : ¬ wc3.heap.size = pB7 := by have := B7.out.lt; omega
              have B7 := hid (B7.out.stays hbn)
              have RN := hid (RN.out.stays hbn)
              generalize hwn : wc3.alloc (.cells #[.int .i64 6, .int .i64 n, .slice none 0 0] 24) = wc4 at RT hSn B7 RN ⊢
              generalize hp : wc3.heap.size = pRT at RT  eRT ⊢
              clear hbn hwn hp
              refine hK.out _ _ (hSn) (fun hSn => ?_)
              clear hK K hS
              have hS := hSn
              clear hSn
              try simp only [Act.put, List.setIfInBounds_toArray, List.set_cons_zero, List.set_cons_succ, List.getElem_toArray, List.getElem_cons_succ, List.getElem_cons_zero]
              refine wpAnyH_ready (rs := [6]) (by kernel_rfl) (by simp) (AllReadyH.cons rfl (fun K hK => ?a49_6) AllReadyH.nil)
              case' a49_6 =>
                go_simp
                refine (hP3.out wc4 pRN pRT hS RN.out RT.out).mono ?_
                rintro e wc5 ⟨vs6, n6, rfl, hT6, hb⟩
                obtain ⟨a6, c6, rfl⟩ := hT6.form
                have HA : Hid (TAt wc5 (fun b => b ≠ pB7) n6 _ ra) := hT6.move (Keeps.refl _ _) (fun b (hb : wc4.heap.size ≤ b) => by have := B7.out.lt; show b ≠ _; omega)
                clear hT6
                have B7 := hid (B7.out.stays hb)
                have RN := hid (RN.out.stays hb)
                have RT := hid (RT.out.stays hb)
                refine hK.out _ _ (bl_tr hS hb) (fun hSn => ?_)
                clear hK K hS
                have hS := hSn
                clear hSn
                try simp only [Act.put, List.setIfInBounds_toArray, List.set_cons_zero, List.set_cons_succ, List.getElem_toArray, List.getElem_cons_succ, List.getElem_cons_zero]
                clear hb
                refine wpAnyH_take (i := 7) (v := ?_) rfl (by kernel_rfl) (by kernel_rfl) (by kernel_rfl) (fun _ _ _ h => h) (Or.inl ⟨by rfl, ?_⟩) hS ?_
                rotate_left
                · intro wz hz; go_simp; try with_reducible rfl
                try simp only [Act.put, List.setIfInBounds_toArray, List.set_cons_zero, List.set_cons_succ, List.getElem_toArray, List.getElem_cons_succ, List.getElem_cons_zero]
                refine wpAnyH_take (i := 8) (v := ?_) rfl (by kernel_rfl) (by kernel_rfl) (by kernel_rfl) (fun _ _ _ h => h) (Or.inl ⟨by rfl, ?_⟩) hS ?_
                rotate_left
                · intro wz hz; go_simp; try with_reducible rfl
                try simp only [Act.put, List.setIfInBounds_toArray, List.set_cons_zero, List.set_cons_succ, List.getElem_toArray, List.getElem_cons_succ, List.getElem_cons_zero]
                refine wpAnyH_take (i := 9) (v := ?_) rfl (by kernel_rfl) (by kernel_rfl) (by kernel_rfl) (fun _ _ _ h => h) (Or.inl ⟨by rfl, ?_⟩) hS ?_
                rotate_left
                · intro wz hz; go_simp; try with_reducible rfl
                try simp only [Act.put, List.setIfInBounds_toArray, List.set_cons_zero, List.set_cons_succ, List.getElem_toArray, List.getElem_cons_succ, List.getElem_cons_zero]
                refine wpAnyH_ready (rs := [11]) (by kernel_rfl) (by simp) (AllReadyH.cons rfl (fun K hK => ?a50_11) AllReadyH.nil)
                case' a50_11 =>
                  go_simp
                  have cc := B7.out.cell
                  have cf := B7.out.frozen
                  go_simp
                  have HA : Hid (TAt (((wc5.setCell ⟨pB7, 0, none⟩ (.int .i64 ra.k)).setCell ⟨pB7, 1, none⟩ (.int .i64 ra.n)).setCell ⟨pB7, 2, none⟩ (.slice a6 ra.ks.length c6)) Any n6 _ ra) := HA.out.move (keeps3 wc5 pB7 _ _ _) (fun _ _ => trivial)
                  have B7 := hid (((B7.out.set 0 (.int .i64 ra.k)).set 1 (.int .i64 ra.n)).set 2 (.slice a6 ra.ks.length c6))
                  simp only [List.set_cons_zero, List.set_cons_succ] at B7
                  have hSn : Below W1.heap.size W1 (((wc5.setCell ⟨pB7, 0, none⟩ (.int .i64 ra.k)).setCell ⟨pB7, 1, none⟩ (.int .i64 ra.n)).setCell ⟨pB7, 2, none⟩ (.slice a6 ra.ks.length c6)) := (bl_set ⟨pB7, 2, none⟩ (.slice a6 ra.ks.length c6) (bl_set ⟨pB7, 1, none⟩ (.int .i64 ra.n) (bl_set ⟨pB7, 0, none⟩ (.int .i64 ra.k) hS q7) q7) q7)
                  generalize (((wc5.setCell ⟨pB7, 0, none⟩ (.int .i64 ra.k)).setCell ⟨pB7, 1, none⟩ (.int .i64 ra.n)).setCell ⟨pB7, 2, none⟩ (.slice a6 ra.ks.length c6)) = wc6 at B7 hSn HA ⊢
                  clear cc cf
                  refine hK.out _ _ (hSn) (fun hSn => ?_)
                  clear hK K hS
                  have hS := hSn
                  clear hSn
                  try simp only [Act.put, List.setIfInBounds_toArray, List.set_cons_zero, List.set_cons_succ, List.getElem_toArray, List.getElem_cons_succ, List.getElem_cons_zero]
                  refine wpAnyH_take (i := 12) (v := ?_) rfl (by kernel_rfl) (by kernel_rfl) (by kernel_rfl) (fun _ _ _ h => h) (Or.inl ⟨by rfl, ?_⟩) hS ?_
                  rotate_left
                  · intro wz hz; go_simp; try with_reducible rfl
                  try simp only [Act.put, List.setIfInBounds_toArray, List.set_cons_zero, List.set_cons_succ, List.getElem_toArray, List.getElem_cons_succ, List.getElem_cons_zero]
                  refine wpAnyH_done (by kernel_rfl) ?_ _
          case' a47_5 =>
            go_simp
            have RT : Hid (Arr (wc2.alloc (.cells #[.int .i64 6, .int .i64 n, .slice none 0 0] 24)) wc2.heap.size 24 [.int .i64 6, .int .i64 n, .slice none 0 0]) := ⟨heap_alloc_at _ _⟩
            have hbn : Below wc2.heap.size wc2 (wc2.alloc (.cells #[.int .i64 6, .int .i64 n, .slice none 0 0] 24)) := bl_alloc (Below.refl _ _) _
            have hSn := bl_tr hS hbn
            have eRT : ¬ wc2.heap.size = pB7 := by have := B7.out.lt; omega
            have B7 := hid (B7.out.stays hbn)
            generalize hwn : wc2.alloc (.cells #[.int .i64 6, .int .i64 n, .slice none 0 0] 24) = wc3 at RT hSn B7 ⊢
            generalize hp : wc2.heap.size = pRT at RT  eRT ⊢
            clear hbn hwn hp
            refine hK.out _ _ (hSn) (fun hSn => ?_)
            clear hK K hS
            have hS := hSn
            clear hSn
            try simp only [Act.put, List.setIfInBounds_toArray, List.set_cons_zero, List.set_cons_succ, List.getElem_toArray, List.getElem_cons_succ, List.getElem_cons_zero]
            refine wpAnyH_ready (rs := [2]) (by kernel_rfl) (by simp) (AllReadyH.cons rfl (fun K hK => ?a51_2) AllReadyH.nil)
            case' a51_2 =>
              go_simp
              have RN : Hid (Arr (wc3.alloc (.cells #[.int .i64 n] 3)) wc3.heap.size 3 [.int .i64 n]) := ⟨heap_alloc_at _ _⟩
              have hbn : Below wc3.heap.size wc3 (wc3.alloc (.cells #[.int .i64 n] 3)) := bl_alloc (Below.refl _ _) _
              have hSn := bl_tr hS hbn
              have eRN : ¬ wc3.heap.size = pB7 := by have := B7.out.lt; omega
              have B7 := hid (B7.out.stays hbn)
              have RT := hid (RT.out.stays hbn)
              generalize hwn : wc3.alloc (.cells #[.int .i64 n] 3) = wc4 at RN hSn B7 RT ⊢
              generalize hp : wc3.heap.size = pRN at RN  eRN ⊢
              clear hbn hwn hp
              refine hK.out _ _ (hSn) (fun hSn => ?_)
              clear hK K hS
              have hS := hSn
              clear hSn
              try simp only [Act.put, List.setIfInBounds_toArray, List.set_cons_zero, List.set_cons_succ, List.getElem_toArray, List.getElem_cons_succ, List.getElem_cons_zero]
              refine wpAnyH_ready (rs := [6]) (by kernel_rfl) (by simp) (AllReadyH.cons rfl (fun K hK => ?a52_6) AllReadyH.nil)
              case' a52_6 =>
                go_simp
                refine (hP3.out wc4 pRN pRT hS RN.out RT.out).mono ?_
                rintro e wc5 ⟨vs6, n6, rfl, hT6, hb⟩
                obtain ⟨a6, c6, rfl⟩ := hT6.form
                have HA : Hid (TAt wc5 (fun b => b ≠ pB7) n6 _ ra) := hT6.move (Keeps.refl _ _) (fun b (hb : wc4.heap.size ≤ b) => by have := B7.out.lt; show b ≠ _; omega)
                clear hT6
                have B7 := hid (B7.out.stays hb)
                have RT := hid (RT.out.stays hb)
                have RN := hid (RN.out.stays hb)
                refine hK.out _ _ (bl_tr hS hb) (fun hSn => ?_)
                clear hK K hS
                have hS := hSn
                clear hSn
                try simp only [Act.put, List.setIfInBounds_toArray, List.set_cons_zero, List.set_cons_succ, List.getElem_toArray, List.getElem_cons_succ, List.getElem_cons_zero]
                clear hb
                refine wpAnyH_take (i := 7) (v := ?_) rfl (by kernel_rfl) (by kernel_rfl) (by kernel_rfl) (fun _ _ _ h => h) (Or.inl ⟨by rfl, ?_⟩) hS ?_
                rotate_left
                · intro wz hz; go_simp; try with_reducible rfl
                try simp only [Act.put, List.setIfInBounds_toArray, List.set_cons_zero, List.set_cons_succ, List.getElem_toArray, List.getElem_cons_succ, List.getElem_cons_zero]
                refine wpAnyH_take (i := 8) (v := ?_) rfl (by kernel_rfl) (by kernel_rfl) (by kernel_rfl) (fun _ _ _ h => h) (Or.inl ⟨by rfl, ?_⟩) hS ?_
                rotate_left
                · intro wz hz; go_simp; try with_reducible rfl
                try simp only [Act.put, List.setIfInBounds_toArray, List.set_cons_zero, List.set_cons_succ, List.getElem_toArray, List.getElem_cons_succ, List.getElem_cons_zero]
                refine wpAnyH_take (i := 9) (v := ?_) rfl (by kernel_rfl) (by kernel_rfl) (by kernel_rfl) (fun _ _ _ h => h) (Or.inl ⟨by rfl, ?_⟩) hS ?_
                rotate_left
                · intro wz hz; go_simp; try with_reducible rfl
                try simp only [Act.put, List.setIfInBounds_toArray, List.set_cons_zero, List.set_cons_succ, List.getElem_toArray, List.getElem_cons_succ, List.getElem_cons_zero]
                refine wpAnyH_ready (rs := [11]) (by kernel_rfl) (by simp) (AllReadyH.cons rfl (fun K hK => ?a53_11) AllReadyH.nil)
                case' a53_11 =>
                  go_simp
                  have cc := B7.out.cell
                  have cf := B7.out.frozen
                  go_simp
                  have HA : Hid (TAt (((wc5.setCell ⟨pB7, 0, none⟩ (.int .i64 ra.k)).setCell ⟨pB7, 1, none⟩ (.int .i64 ra.n)).setCell ⟨pB7, 2, none⟩ (.slice a6 ra.ks.length c6)) Any n6 _ ra) := HA.out.move (keeps3 wc5 pB7 _ _ _) (fun _ _ => trivial)
                  have B7 := hid (((B7.out.set 0 (.int .i64 ra.k)).set 1 (.int .i64 ra.n)).set 2 (.slice a6 ra.ks.length c6))
                  simp only [List.set_cons_zero, List.set_cons_succ] at B7
                  have hSn : Below W1.heap.size W1 (((wc5.setCell ⟨pB7, 0, none⟩ (.int .i64 ra.k)).setCell ⟨pB7, 1, none⟩ (.int .i64 ra.n)).setCell ⟨pB7, 2, none⟩ (.slice a6 ra.ks.length c6)) := (bl_set ⟨pB7, 2, none⟩ (.slice a6 ra.ks.length c6) (bl_set ⟨pB7, 1, none⟩ (.int .i64 ra.n) (bl_set ⟨pB7, 0, none⟩ (.int .i64 ra.k) hS q7) q7) q7)
                  generalize (((wc5.setCell ⟨pB7, 0, none⟩ (.int .i64 ra.k)).setCell ⟨pB7, 1, none⟩ (.int .i64 ra.n)).setCell ⟨pB7, 2, none⟩ (.slice a6 ra.ks.length c6)) = wc6 at B7 hSn HA ⊢
                  clear cc cf
                  refine hK.out _ _ (hSn) (fun hSn => ?_)
                  clear hK K hS
                  have hS := hSn
                  clear hSn
                  try simp only [Act.put, List.setIfInBounds_toArray, List.set_cons_zero, List.set_cons_succ, List.getElem_toArray, List.getElem_cons_succ, List.getElem_cons_zero]
                  refine wpAnyH_take (i := 12) (v := ?_) rfl (by kernel_rfl) (by kernel_rfl) (by kernel_rfl) (fun _ _ _ h => h) (Or.inl ⟨by rfl, ?_⟩) hS ?_
                  rotate_left
                  · intro wz hz; go_simp; try with_reducible rfl
                  try simp only [Act.put, List.setIfInBounds_toArray, List.set_cons_zero, List.set_cons_succ, List.getElem_toArray, List.getElem_cons_succ, List.getElem_cons_zero]
                  refine wpAnyH_done (by kernel_rfl) ?_ _
      all_goals (
        go_wp2_with fail
        go_meet
        exact ⟨pB7, n6, a6, c6, rfl, rfl, B7, HA, hS⟩)
    case rest =>
      obtain ⟨p7, n7, a7, c7, rfl, rfl, X7, HT7, hb3⟩ := hcut
      have X0 := hid (X0.out.stays hb3.out)
      have X1 := hid (X1.out.stays hb3.out)
      have B3 := hid (bl_tr BW1.out hb3.out)
      have x0 := X0.out.cell
      have x1 := X1.out.cell
      clear hb3 g0 hP3 BW1 HR1
      have hSz : Hid (∀ (wz : World) (nx : Nat) (vx : List Value) (x : Tp), x = Tp.zero → TAt wz Any nx vx x → Calls Tryd.prog 27 #[.agg vx.toArray, .agg #[.int .i64 0, .int .i64 0, .slice none 0 0]] wz fun e w' => e = .returned (.bool true) ∧ Below wz.heap.size wz w') := fun wz nx vx x hx h => (Same_any wz nx 1 vx [.int .i64 0, .int .i64 0, .slice none 0 0] x Tp.zero h (TAt.zero wz Any)).mono fun e w' h => by rw [show (Tp.cmp x Tp.zero == 0) = true by rw [beq_iff_eq, hx]; exact (Tp.cmp_eq _ _).2 rfl] at h; exact h
      have hSm : Hid (∀ (wz : World) (nx : Nat) (vx : List Value), TAt wz Any n0 [.int .i64 t.k, .int .i64 t.n, .slice a0 t.ks.length c0] t → TAt wz Any nx vx t → Calls Tryd.prog 27 #[.agg vx.toArray, .agg #[.int .i64 t.k, .int .i64 t.n, .slice a0 t.ks.length c0]] wz fun e w' => e = .returned (.bool true) ∧ Below wz.heap.size wz w') := fun wz nx vx h h' => (Same_any wz nx n0 vx _ t t h' h).mono fun e w' h => by rw [show (Tp.cmp t t == 0) = true by rw [beq_iff_eq]; exact (Tp.cmp_eq _ _).2 rfl] at h; exact h
      have hP1 : Hid (∀ (wz : World) (z : Nat), wz.heap.size = z → Below w.heap.size w wz → Calls Tryd.prog 31 #[.agg #[.int .i64 t.k, .int .i64 t.n, .slice a0 t.ks.length c0], .int .i64 6, .slice (some ⟨z, 0, none⟩) 1 1, .slice (some ⟨z + 1, 0, none⟩) 1 1] ((wz.alloc (.cells #[.int .i64 n] 3)).alloc (.cells #[.int .i64 u.k, .int .i64 u.n, .slice a1 u.ks.length c1] 24)) fun e w' => ∃ vs' n', e = .returned (.tuple #[.agg vs'.toArray, .int .i64 (Tp.repl 6 [n] [u] t).2]) ∧ TAt w' Any n' vs' (Tp.repl 6 [n] [u] t).1 ∧ Below wz.heap.size wz w') := by
        intro wz z hzz hz
        subst hzz
        have k1 : Below wz.heap.size wz ((wz.alloc (.cells #[.int .i64 n] 3)).alloc (.cells #[.int .i64 u.k, .int .i64 u.n, .slice a1 u.ks.length c1] 24)) := bl_alloc (bl_alloc (Below.refl _ _) _) _
        have r1 : Arr ((wz.alloc (.cells #[.int .i64 n] 3)).alloc (.cells #[.int .i64 u.k, .int .i64 u.n, .slice a1 u.ks.length c1] 24)) wz.heap.size 3 [.int .i64 n] := Arr.stays ⟨heap_alloc_at _ _⟩ (bl_alloc (Below.refl _ _) _)
        have r2 : Arr ((wz.alloc (.cells #[.int .i64 n] 3)).alloc (.cells #[.int .i64 u.k, .int .i64 u.n, .slice a1 u.ks.length c1] 24)) (wz.heap.size + 1) 24 [.int .i64 u.k, .int .i64 u.n, .slice a1 u.ks.length c1] := ⟨by have := heap_alloc_at (wz.alloc (.cells #[.int .i64 n] 3)) (.cells #[.int .i64 u.k, .int .i64 u.n, .slice a1 u.ks.length c1] 24); rw [size_alloc] at this; exact this⟩
        refine (Replace_any _ n0 n1 _ t 6 _ _ [n] [u] ((H0.out.below hz).below k1) (Ls.arr r1) (TAtL.arr r2 ((H1.out.below hz).below k1))).mono ?_
        rintro e w' ⟨vs', n', e1, e2, e3⟩
        exact ⟨vs', n', e1, e2.any, bl_tr k1 e3⟩
      by_cases hbig : 1000 < t.cnt
      · have hq := HQ.out
        rw [if_pos hbig] at hq
        injection hq with hq1 hq2
        subst hq2
        have hf : (Tp.upto t.cnt).2 = false := by unfold Tp.upto; rw [if_neg (by omega)]
        rw [hf] at hFi
        have HBIG := hid hbig
        clear hf hbig hq1 HQ
        rcases Tp.repl_cases 6 [n] [u] t rfl with hr2 | hr2
        · exfalso
          have hp := Tp.cnt_put n u t HRT.out
          unfold Tp.repl at hr2
          rw [if_neg (by simp), if_pos (by have := HBIG.out; omega)] at hr2
          injection hr2 with _ h; cases h
        · have HR2 : Hid (Tp.repl 6 [n] [u] t = (Tp.zero, 3)) := hr2
          clear hr2
          generalize hz0 : Tp.zero = rb at HR2
          have HZ := hid hz0
          clear hz0
          go_wp2_with (first | (go_at_call 13; refine (hFi.out _ B3.out).mono ?_; rintro e w4 ⟨rfl, hb4⟩; have X0 : Hid (Arr w4 w.heap.size _ _) := X0.out.stays hb4; have X1 : Hid (Arr w4 (w.heap.size + 1) _ _) := X1.out.stays hb4; have X7 : Hid (Arr w4 p7 _ _) := X7.out.stays hb4; have B4 : Hid (Below w.heap.size w w4) := bl_tr B3.out hb4; have HT7 : Hid (TAt w4 Any _ _ _) := HT7.out.below hb4; have x0 := X0.out.cell; have x1 : ∀ o j, (w4.alloc o).cell? ⟨w.heap.size + 1, j, none⟩ = _ := (fun o j => (X1.out.stays (bl_alloc (Below.refl _ _) o)).cell j); have x7 := X7.out.cell; clear hb4) | (go_at_call 31; refine (hP1.out w4 _ rfl B4.out).mono ?_; rw [HR2.out]; rintro e w6 ⟨vs6, n6, rfl, hT6, hb6⟩; obtain ⟨a6, c6, rfl⟩ := hT6.form; have B6 : Hid (Below w.heap.size w w6) := bl_tr B4.out hb6; have Y0 : Hid (Arr w6 w.heap.size _ _) := X0.out.stays hb6; have Y1 : Hid (Arr w6 (w.heap.size + 1) _ _) := X1.out.stays hb6; have HT6 : Hid (TAt w6 Any n6 _ _) := hT6; clear hT6 hb6) | (go_at_call 27; refine (hSz.out _ n6 _ rb HZ.out.symm (HT6.out.below (bl_alloc (Below.refl _ _) _))).mono ?_; rintro e w8 ⟨rfl, hb8⟩; have B8 : Hid (Below w.heap.size w w8) := bl_tr (bl_alloc B6.out _) hb8; clear hb8) | (go_at_call 26; refine (hA.out _ B8.out).mono ?_; rintro e wx ⟨rfl, hbx⟩))
          go_ret
          exact ⟨rfl, bl_tr B8.out hbx⟩
      · have hq := HQ.out
        rw [if_neg hbig] at hq
        injection hq with hq1 hq2
        subst hq1 hq2
        have hf : (Tp.upto t.cnt).2 = true := by unfold Tp.upto; rw [if_pos (by omega)]
        rw [hf] at hFi
        clear hf hbig HQ
        rcases Tp.repl_cases 6 [n] [u] t rfl with hr2 | hr2
        · have HR2 : Hid (Tp.repl 6 [n] [u] t = (Tp.put 6 [n] [u] t, 0)) := hr2
          have hcb : (Tp.put 6 [n] [u] t).cnt ≤ 1048576 := by
            unfold Tp.repl at hr2
            rw [if_neg (by simp)] at hr2
            split at hr2
            · injection hr2 with _ h; cases h
            · omega
          have HCB := hid hcb
          clear hr2 hcb
          generalize hrb : Tp.put 6 [n] [u] t = rb at HR2 HCB
          have HRB := hid hrb
          clear hrb
          go_wp2_with (first | (go_at_call 13; refine (hFi.out _ B3.out).mono ?_; rintro e w4 ⟨rfl, hb4⟩; have X0 : Hid (Arr w4 w.heap.size _ _) := X0.out.stays hb4; have X1 : Hid (Arr w4 (w.heap.size + 1) _ _) := X1.out.stays hb4; have X7 : Hid (Arr w4 p7 _ _) := X7.out.stays hb4; have B4 : Hid (Below w.heap.size w w4) := bl_tr B3.out hb4; have HT7 : Hid (TAt w4 Any _ _ _) := HT7.out.below hb4; have x0 := X0.out.cell; have x1 := X1.out.cell; have x7 := X7.out.cell; clear hb4) | (go_at_call 27; refine (hSm.out _ n7 _ (H0.out.below B4.out) HT7.out).mono ?_; rintro e w5 ⟨rfl, hb5⟩; have X0 : Hid (Arr w5 w.heap.size _ _) := X0.out.stays hb5; have X1 : Hid (Arr w5 (w.heap.size + 1) _ _) := X1.out.stays hb5; have B5 : Hid (Below w.heap.size w w5) := bl_tr B4.out hb5; have x1 : ∀ o j, (w5.alloc o).cell? ⟨w.heap.size + 1, j, none⟩ = _ := (fun o j => (X1.out.stays (bl_alloc (Below.refl _ _) o)).cell j); have x0 := X0.out.cell; clear hb5) | (go_at_call 31; refine (hP1.out w5 _ rfl B5.out).mono ?_; rw [HR2.out]; rintro e w6 ⟨vs6, n6, rfl, hT6, hb6⟩; obtain ⟨a6, c6, rfl⟩ := hT6.form; have B6 : Hid (Below w.heap.size w w6) := bl_tr B5.out hb6; have Y0 : Hid (Arr w6 w.heap.size _ _) := X0.out.stays hb6; have Y1 : Hid (Arr w6 (w.heap.size + 1) _ _) := X1.out.stays hb6; have HT6 : Hid (TAt w6 Any n6 _ _) := hT6; clear hT6 hb6))
          have X9 : Hid (Arr (w6.alloc (.cells #[.int .i64 rb.k, .int .i64 rb.n, .slice a6 rb.ks.length c6] 24)) w6.heap.size 24 [.int .i64 rb.k, .int .i64 rb.n, .slice a6 rb.ks.length c6]) := ⟨heap_alloc_at _ _⟩
          have Y0 := hid (Y0.out.stays (bl_alloc (Below.refl _ _) (.cells #[.int .i64 rb.k, .int .i64 rb.n, .slice a6 rb.ks.length c6] 24)))
          have Y1 := hid (Y1.out.stays (bl_alloc (Below.refl _ _) (.cells #[.int .i64 rb.k, .int .i64 rb.n, .slice a6 rb.ks.length c6] 24)))
          have HT9 := hid (HT6.out.below (bl_alloc (Below.refl _ _) (.cells #[.int .i64 rb.k, .int .i64 rb.n, .slice a6 rb.ks.length c6] 24)))
          have B9 := hid (bl_alloc B6.out (.cells #[.int .i64 rb.k, .int .i64 rb.n, .slice a6 rb.ks.length c6] 24))
          generalize w6.alloc (.cells #[.int .i64 rb.k, .int .i64 rb.n, .slice a6 rb.ks.length c6] 24) = W9 at X9 Y0 Y1 HT9 B9 ⊢
          generalize w6.heap.size = p9 at X9 ⊢
          have g0 : Hid (∀ wz, Below W9.heap.size W9 wz → ∀ j, wz.cell? ⟨w.heap.size, j, none⟩ = [.int .i64 t.k, .int .i64 t.n, .slice a0 t.ks.length c0][j]?) := fun wz hz j => (Y0.out.stays hz).cell j
          have g1 : Hid (∀ wz, Below W9.heap.size W9 wz → ∀ j, wz.cell? ⟨w.heap.size + 1, j, none⟩ = [.int .i64 u.k, .int .i64 u.n, .slice a1 u.ks.length c1][j]?) := fun wz hz j => (Y1.out.stays hz).cell j
          have g9 : Hid (∀ wz, Below W9.heap.size W9 wz → ∀ j, wz.cell? ⟨p9, j, none⟩ = [.int .i64 rb.k, .int .i64 rb.n, .slice a6 rb.ks.length c6][j]?) := fun wz hz j => (X9.out.stays hz).cell j
          have hSt : Hid (∀ wz, Below W9.heap.size W9 wz → Calls Tryd.prog 16 #[.agg #[.int .i64 t.k, .int .i64 t.n, .slice a0 t.ks.length c0]] wz fun e w' => ∃ y, e = .returned y ∧ Ls w' Any y (Tp.found 6 t []) ∧ Below wz.heap.size wz w') := fun wz hz => Stamps_any wz n0 _ t (H0.out.below (bl_tr B9.out hz)) HC0.out
          have hSu : Hid (∀ wz, Below W9.heap.size W9 wz → Calls Tryd.prog 16 #[.agg #[.int .i64 u.k, .int .i64 u.n, .slice a1 u.ks.length c1]] wz fun e w' => ∃ y, e = .returned y ∧ Ls w' Any y (Tp.found 6 u []) ∧ Below wz.heap.size wz w') := fun wz hz => Stamps_any wz n1 _ u (H1.out.below (bl_tr B9.out hz)) HC1.out
          have hSb : Hid (∀ wz, Below W9.heap.size W9 wz → Calls Tryd.prog 16 #[.agg #[.int .i64 rb.k, .int .i64 rb.n, .slice a6 rb.ks.length c6]] wz fun e w' => ∃ y, e = .returned y ∧ Ls w' Any y (Tp.found 6 rb []) ∧ Below wz.heap.size wz w') := fun wz hz => Stamps_any wz n6 _ rb (HT9.out.below hz) HCB.out
          have HMM : Hid (∀ x, x ∈ Tp.found 6 rb [] ↔ (x ∈ Tp.found 6 t [] ∧ x ≠ n) ∨ (n ∈ Tp.found 6 t [] ∧ x ∈ Tp.found 6 u [])) := fun x => by
            rw [← HRB.out]; simp only [Tp.mem_found, List.not_mem_nil, false_or]; exact Tp.st_put n u x t HRT.out
          generalize Tp.found 6 rb [] = now at hSb HMM
          generalize Tp.found 6 t [] = own at hSt HMM
          generalize Tp.found 6 u [] = more at hSu HMM
          refine wp_region_held_drew (S := fun wz => Below W9.heap.size W9 wz) (by kernel_rfl) ((Below.refl _ _).drew) (fun hS => ?_)
          generalize W9.drew = wc0 at hS   ⊢
          refine wpAnyH_take (i := 0) (v := ?_) rfl (by kernel_rfl) (by kernel_rfl) (by kernel_rfl) (fun _ _ _ h => h) (Or.inl ⟨by rfl, ?_⟩) hS ?_
          rotate_left
          · intro wz hz; have yy0 := g0.out wz hz; have yy1 := g1.out wz hz; have yy2 := g9.out wz hz; go_simp; try with_reducible rfl
          try simp only [Act.put, List.setIfInBounds_toArray, List.set_cons_zero, List.set_cons_succ, List.getElem_toArray, List.getElem_cons_succ, List.getElem_cons_zero]
          refine wpAnyH_take (i := 2) (v := ?_) rfl (by kernel_rfl) (by kernel_rfl) (by kernel_rfl) (fun _ _ _ h => h) (Or.inl ⟨by rfl, ?_⟩) hS ?_
          rotate_left
          · intro wz hz; have yy0 := g0.out wz hz; have yy1 := g1.out wz hz; have yy2 := g9.out wz hz; go_simp; try with_reducible rfl
          try simp only [Act.put, List.setIfInBounds_toArray, List.set_cons_zero, List.set_cons_succ, List.getElem_toArray, List.getElem_cons_succ, List.getElem_cons_zero]
          refine wpAnyH_take (i := 4) (v := ?_) rfl (by kernel_rfl) (by kernel_rfl) (by kernel_rfl) (fun _ _ _ h => h) (Or.inl ⟨by rfl, ?_⟩) hS ?_
          rotate_left
          · intro wz hz; have yy0 := g0.out wz hz; have yy1 := g1.out wz hz; have yy2 := g9.out wz hz; go_simp; try with_reducible rfl
          try simp only [Act.put, List.setIfInBounds_toArray, List.set_cons_zero, List.set_cons_succ, List.getElem_toArray, List.getElem_cons_succ, List.getElem_cons_zero]
          refine wpAnyH_ready (rs := [1]) (by kernel_rfl) (by simp) (AllReadyH.cons rfl (fun K hK => ?a54_1) AllReadyH.nil)
          case' a54_1 =>
            go_simp
            refine (hSt.out wc0 hS).mono ?_
            rintro e wc1 ⟨yLO, rfl, hL, hb⟩
            obtain ⟨pLO, kLO, rfl, -⟩ := hL.form
            have LO : Hid (Ls wc1 Any _ _) := hL
            clear hL
            refine hK.out _ _ (bl_tr hS hb) (fun hSn => ?_)
            clear hK K hS
            have hS := hSn
            clear hSn
            try simp only [Act.put, List.setIfInBounds_toArray, List.set_cons_zero, List.set_cons_succ, List.getElem_toArray, List.getElem_cons_succ, List.getElem_cons_zero]
            clear hb
            refine wpAnyH_ready (rs := [3]) (by kernel_rfl) (by simp) (AllReadyH.cons rfl (fun K hK => ?a55_3) AllReadyH.nil)
            case' a55_3 =>
              go_simp
              refine (hSu.out wc1 hS).mono ?_
              rintro e wc2 ⟨yLM, rfl, hL, hb⟩
              obtain ⟨pLM, kLM, rfl, -⟩ := hL.form
              have LO := hid (LO.out.below hb)
              have LM : Hid (Ls wc2 Any _ _) := hL
              clear hL
              refine hK.out _ _ (bl_tr hS hb) (fun hSn => ?_)
              clear hK K hS
              have hS := hSn
              clear hSn
              try simp only [Act.put, List.setIfInBounds_toArray, List.set_cons_zero, List.set_cons_succ, List.getElem_toArray, List.getElem_cons_succ, List.getElem_cons_zero]
              clear hb
              refine wpAnyH_ready (rs := [5]) (by kernel_rfl) (by simp) (AllReadyH.cons rfl (fun K hK => ?a56_5) AllReadyH.nil)
              case' a56_5 =>
                go_simp
                refine (hSb.out wc2 hS).mono ?_
                rintro e wc3 ⟨yLN, rfl, hL, hb⟩
                obtain ⟨pLN, kLN, rfl, -⟩ := hL.form
                have LO := hid (LO.out.below hb)
                have LM := hid (LM.out.below hb)
                have LN : Hid (Ls wc3 Any _ _) := hL
                clear hL
                refine hK.out _ _ (bl_tr hS hb) (fun hSn => ?_)
                clear hK K hS
                have hS := hSn
                clear hSn
                try simp only [Act.put, List.setIfInBounds_toArray, List.set_cons_zero, List.set_cons_succ, List.getElem_toArray, List.getElem_cons_succ, List.getElem_cons_zero]
                clear hb
                refine wpAnyH_take (i := 6) (v := ?_) rfl (by kernel_rfl) (by kernel_rfl) (by kernel_rfl) (fun _ _ _ h => h) (Or.inl ⟨by rfl, ?_⟩) hS ?_
                rotate_left
                · intro wz hz; go_simp; try with_reducible rfl
                try simp only [Act.put, List.setIfInBounds_toArray, List.set_cons_zero, List.set_cons_succ, List.getElem_toArray, List.getElem_cons_succ, List.getElem_cons_zero]
                refine wpAnyH_take (i := 7) (v := ?_) rfl (by kernel_rfl) (by kernel_rfl) (by kernel_rfl) (fun _ _ _ h => h) (Or.inl ⟨by rfl, ?_⟩) hS ?_
                rotate_left
                · intro wz hz; go_simp; try with_reducible rfl
                try simp only [Act.put, List.setIfInBounds_toArray, List.set_cons_zero, List.set_cons_succ, List.getElem_toArray, List.getElem_cons_succ, List.getElem_cons_zero]
                refine wpAnyH_take (i := 8) (v := ?_) rfl (by kernel_rfl) (by kernel_rfl) (by kernel_rfl) (fun _ _ _ h => h) (Or.inl ⟨by rfl, ?_⟩) hS ?_
                rotate_left
                · intro wz hz; go_simp; try with_reducible rfl
                try simp only [Act.put, List.setIfInBounds_toArray, List.set_cons_zero, List.set_cons_succ, List.getElem_toArray, List.getElem_cons_succ, List.getElem_cons_zero]
                refine wpAnyH_done (by kernel_rfl) ?_ _
          have BW : Hid (Below w.heap.size w wc3) := bl_tr B9.out hS
          generalize wc3 = W at LO LM LN BW ⊢
          clear hS g0 g1 g9 hSt hSu hSb
          have M1 : Hid (∀ x, x ∈ now → (Tp.has x own = true ∧ x ≠ n) ∨ (Tp.has n own = true ∧ Tp.has x more = true)) := fun x hx => by simp only [Tp.has_mem, decide_eq_true_eq]; exact (HMM.out x).1 hx
          have M2 : Hid (∀ x, x ∈ own → ¬ x = n → Tp.has x now = true) := fun x hx hn => by rw [Tp.has_mem, decide_eq_true_eq]; exact (HMM.out x).2 (.inl ⟨hx, hn⟩)
          have M3 : Hid (Tp.has n own = true → ∀ x, x ∈ more → Tp.has x now = true) := fun ht x hx => by rw [Tp.has_mem, decide_eq_true_eq] at ht ⊢; exact (HMM.out x).2 (.inr ⟨ht, hx⟩)
          have i0 := hid (lawIn_any W _ _ n LO.out)
          have hlo : own.length ≤ 9223372036854775807 := LO.out.len
          have hlm : more.length ≤ 9223372036854775807 := LM.out.len
          have hln : now.length ≤ 9223372036854775807 := LN.out.len
          generalize Tp.has n own = there at i0 M1 M3
          clear HMM
          go_wp2_with (go_at_call 44; refine (i0.out).mono ?_; rintro e w3 ⟨rfl, hw⟩; rw [hw]; clear hw w3)
          clear i0
          go_loopw [14] (fun v wr => ∃ k : Nat, v = .int .i64 k ∧ k ≤ now.length ∧ wr = W) (fun v _ => now.length - (intOf v).toNat)
          case atStart => exact ⟨0, rfl, Nat.zero_le _, rfl⟩
          case round =>
            obtain ⟨k, rfl, hk, hwr⟩ := hrel
            subst wr
            by_cases hlt : k < now.length
            · obtain ⟨b, o, c', hv, -, -, -, hl⟩ := LN.out.resolve_right (fun h => by rw [h.1] at hlt; exact absurd hlt (Nat.not_lt_zero _))
              injection hv with e1 e2 e3
              subst e1
              obtain ⟨x, hx⟩ : ∃ x, now[k]? = some x := ⟨_, List.getElem?_eq_getElem hlt⟩
              have hc := hl k x hx
              have hmem : x ∈ now := List.mem_of_getElem? hx
              clear hl hx e2 e3
              by_cases hxn : x = n
              · have hq : (x != n) = false := by rw [hxn]; simp
                obtain ⟨ht, f2⟩ := (M1.out x hmem).resolve_left (fun h => h.2 hxn)
                subst ht
                have i2 : Hid (Calls Tryd.prog 44 #[.slice pLM more.length kLM, .int .i64 x] W fun e w' => e = .returned (.bool true) ∧ w' = W) := by have h := lawIn_any W _ _ x LM.out; rw [f2] at h; exact h
                cases f1 : Tp.has x own with
                | false =>
                  have i1 : Hid (Calls Tryd.prog 44 #[.slice pLO own.length kLO, .int .i64 x] W fun e w' => e = .returned (.bool false) ∧ w' = W) := by have h := lawIn_any W _ _ x LO.out; rw [f1] at h; exact h
                  clear hxn hmem f1 f2
                  have m0 := True.intro
                  go_wp2_with (first | (go_at_call 44; have _ := m0; refine (i1.out).mono ?_; rintro e w3 ⟨rfl, hw⟩; rw [hw]; clear hw w3 m0) | (go_at_call 44; refine (i2.out).mono ?_; rintro e w3 ⟨rfl, hw⟩; rw [hw]; clear hw w3))
                  go_roundw
                  case rel => exact ⟨k + 1, by go_num, by omega, by first | trivial | rfl⟩
                  case measure => simp [intOf]; omega
                | true =>
                  have i1 : Hid (Calls Tryd.prog 44 #[.slice pLO own.length kLO, .int .i64 x] W fun e w' => e = .returned (.bool true) ∧ w' = W) := by have h := lawIn_any W _ _ x LO.out; rw [f1] at h; exact h
                  clear hxn hmem f1 f2
                  have m0 := True.intro
                  go_wp2_with (first | (go_at_call 44; have _ := m0; refine (i1.out).mono ?_; rintro e w3 ⟨rfl, hw⟩; rw [hw]; clear hw w3 m0) | (go_at_call 44; refine (i2.out).mono ?_; rintro e w3 ⟨rfl, hw⟩; rw [hw]; clear hw w3))
                  go_roundw
                  case rel => exact ⟨k + 1, by go_num, by omega, by first | trivial | rfl⟩
                  case measure => simp [intOf]; omega
              · have hq : (x != n) = true := by simp [hxn]
                cases f1 : Tp.has x own with
                | true =>
                  have i1 : Hid (Calls Tryd.prog 44 #[.slice pLO own.length kLO, .int .i64 x] W fun e w' => e = .returned (.bool true) ∧ w' = W) := by have h := lawIn_any W _ _ x LO.out; rw [f1] at h; exact h
                  clear hxn hmem f1
                  go_wp2_with (first | (go_at_call 44; refine (i1.out).mono ?_; rintro e w3 ⟨rfl, hw⟩; rw [hw]; clear hw w3))
                  go_roundw
                  case rel => exact ⟨k + 1, by go_num, by omega, by first | trivial | rfl⟩
                  case measure => simp [intOf]; omega
                | false =>
                  obtain ⟨ht, f2⟩ := (M1.out x hmem).resolve_left (fun h => by rw [h.1] at f1; cases f1)
                  subst ht
                  have i2 : Hid (Calls Tryd.prog 44 #[.slice pLM more.length kLM, .int .i64 x] W fun e w' => e = .returned (.bool true) ∧ w' = W) := by have h := lawIn_any W _ _ x LM.out; rw [f2] at h; exact h
                  have i1 : Hid (Calls Tryd.prog 44 #[.slice pLO own.length kLO, .int .i64 x] W fun e w' => e = .returned (.bool false) ∧ w' = W) := by have h := lawIn_any W _ _ x LO.out; rw [f1] at h; exact h
                  clear hxn hmem f1 f2
                  have m0 := True.intro
                  go_wp2_with (first | (go_at_call 44; have _ := m0; refine (i1.out).mono ?_; rintro e w3 ⟨rfl, hw⟩; rw [hw]; clear hw w3 m0) | (go_at_call 44; refine (i2.out).mono ?_; rintro e w3 ⟨rfl, hw⟩; rw [hw]; clear hw w3))
                  go_roundw
                  case rel => exact ⟨k + 1, by go_num, by omega, by first | trivial | rfl⟩
                  case measure => simp [intOf]; omega
            · go_wp2
              go_loopw [15] (fun v wr => ∃ k : Nat, v = .int .i64 k ∧ k ≤ own.length ∧ wr = W) (fun v _ => own.length - (intOf v).toNat)
              case atStart => exact ⟨0, rfl, Nat.zero_le _, rfl⟩
              case round =>
                obtain ⟨k, rfl, hk, hwr⟩ := hrel
                subst wr
                by_cases hlt : k < own.length
                · obtain ⟨b, o, c', hv, -, -, -, hl⟩ := LO.out.resolve_right (fun h => by rw [h.1] at hlt; exact absurd hlt (Nat.not_lt_zero _))
                  injection hv with e1 e2 e3
                  subst e1
                  obtain ⟨x, hx⟩ : ∃ x, own[k]? = some x := ⟨_, List.getElem?_eq_getElem hlt⟩
                  have hc := hl k x hx
                  have hmem : x ∈ own := List.mem_of_getElem? hx
                  clear hl hx e2 e3
                  by_cases hxn : x = n
                  · have hq : (x != n) = false := by rw [hxn]; simp
                    clear hxn hmem
                    go_wp2
                    go_roundw
                    case rel => exact ⟨k + 1, by go_num, by omega, by first | trivial | rfl⟩
                    case measure => simp [intOf]; omega
                  · have hq : (x != n) = true := by simp [hxn]
                    have f1 : Tp.has x now = true := M2.out x hmem hxn
                    have i1 : Hid (Calls Tryd.prog 44 #[.slice pLN now.length kLN, .int .i64 x] W fun e w' => e = .returned (.bool true) ∧ w' = W) := by have h := lawIn_any W _ _ x LN.out; rw [f1] at h; exact h
                    clear hxn hmem f1
                    go_wp2_with (first | (go_at_call 44; refine (i1.out).mono ?_; rintro e w3 ⟨rfl, hw⟩; rw [hw]; clear hw w3))
                    go_roundw
                    case rel => exact ⟨k + 1, by go_num, by omega, by first | trivial | rfl⟩
                    case measure => simp [intOf]; omega
                · go_wp2
                  go_loopw [16] (fun v wr => ∃ k : Nat, v = .int .i64 k ∧ k ≤ more.length ∧ wr = W) (fun v _ => more.length - (intOf v).toNat)
                  case atStart => exact ⟨0, rfl, Nat.zero_le _, rfl⟩
                  case round =>
                    obtain ⟨k, rfl, hk, hwr⟩ := hrel
                    subst wr
                    cases there with
                    | false =>
                      go_wp2_with (go_at_call 26; refine (hA.out _ BW.out).mono ?_; rintro e wx ⟨rfl, hbx⟩)
                      go_ret
                      exact ⟨rfl, bl_tr BW.out hbx⟩
                    | true =>
                      by_cases hlt : k < more.length
                      · obtain ⟨b, o, c', hv, -, -, -, hl⟩ := LM.out.resolve_right (fun h => by rw [h.1] at hlt; exact absurd hlt (Nat.not_lt_zero _))
                        injection hv with e1 e2 e3
                        subst e1
                        obtain ⟨x, hx⟩ : ∃ x, more[k]? = some x := ⟨_, List.getElem?_eq_getElem hlt⟩
                        have hc := hl k x hx
                        have hmem : x ∈ more := List.mem_of_getElem? hx
                        clear hl hx e2 e3
                        have f1 : Tp.has x now = true := M3.out rfl x hmem
                        have i1 : Hid (Calls Tryd.prog 44 #[.slice pLN now.length kLN, .int .i64 x] W fun e w' => e = .returned (.bool true) ∧ w' = W) := by have h := lawIn_any W _ _ x LN.out; rw [f1] at h; exact h
                        clear hmem f1
                        go_wp2_with (first | (go_at_call 44; refine (i1.out).mono ?_; rintro e w3 ⟨rfl, hw⟩; rw [hw]; clear hw w3))
                        go_roundw
                        case rel => exact ⟨k + 1, by go_num, by omega, by first | trivial | rfl⟩
                        case measure => simp [intOf]; omega
                      · go_wp2_with (go_at_call 26; refine (hA.out _ BW.out).mono ?_; rintro e wx ⟨rfl, hbx⟩)
                        go_ret
                        exact ⟨rfl, bl_tr BW.out hbx⟩
        · have HR2 : Hid (Tp.repl 6 [n] [u] t = (Tp.zero, 3)) := hr2
          clear hr2
          generalize hz0 : Tp.zero = rb at HR2
          have HZ := hid hz0
          clear hz0
          go_wp2_with (first | (go_at_call 13; refine (hFi.out _ B3.out).mono ?_; rintro e w4 ⟨rfl, hb4⟩; have X0 : Hid (Arr w4 w.heap.size _ _) := X0.out.stays hb4; have X1 : Hid (Arr w4 (w.heap.size + 1) _ _) := X1.out.stays hb4; have X7 : Hid (Arr w4 p7 _ _) := X7.out.stays hb4; have B4 : Hid (Below w.heap.size w w4) := bl_tr B3.out hb4; have HT7 : Hid (TAt w4 Any _ _ _) := HT7.out.below hb4; have x0 := X0.out.cell; have x1 := X1.out.cell; have x7 := X7.out.cell; clear hb4) | (go_at_call 27; refine (hSm.out _ n7 _ (H0.out.below B4.out) HT7.out).mono ?_; rintro e w5 ⟨rfl, hb5⟩; have X0 : Hid (Arr w5 w.heap.size _ _) := X0.out.stays hb5; have X1 : Hid (Arr w5 (w.heap.size + 1) _ _) := X1.out.stays hb5; have B5 : Hid (Below w.heap.size w w5) := bl_tr B4.out hb5; have x1 : ∀ o j, (w5.alloc o).cell? ⟨w.heap.size + 1, j, none⟩ = _ := (fun o j => (X1.out.stays (bl_alloc (Below.refl _ _) o)).cell j); have x0 := X0.out.cell; clear hb5) | (go_at_call 31; refine (hP1.out w5 _ rfl B5.out).mono ?_; rw [HR2.out]; rintro e w6 ⟨vs6, n6, rfl, hT6, hb6⟩; obtain ⟨a6, c6, rfl⟩ := hT6.form; have B6 : Hid (Below w.heap.size w w6) := bl_tr B5.out hb6; have Y0 : Hid (Arr w6 w.heap.size _ _) := X0.out.stays hb6; have Y1 : Hid (Arr w6 (w.heap.size + 1) _ _) := X1.out.stays hb6; have HT6 : Hid (TAt w6 Any n6 _ _) := hT6; clear hT6 hb6) | (go_at_call 27; refine (hSz.out _ n6 _ rb HZ.out.symm (HT6.out.below (bl_alloc (Below.refl _ _) _))).mono ?_; rintro e w8 ⟨rfl, hb8⟩; have B8 : Hid (Below w.heap.size w w8) := bl_tr (bl_alloc B6.out _) hb8; clear hb8) | (go_at_call 26; refine (hA.out _ B8.out).mono ?_; rintro e wx ⟨rfl, hbx⟩))
          go_ret
          exact ⟨rfl, bl_tr B8.out hbx⟩
end Go.Proofs.YtbdohoebpaiecaaDoor
