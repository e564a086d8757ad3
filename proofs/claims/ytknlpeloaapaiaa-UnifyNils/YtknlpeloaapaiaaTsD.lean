/- slices.IndexFunc, slices.DeleteFunc over ints, with a function that may make memory. -/
import Derived.Lib.SliceRun
import Derived.Laws.IdiomCopy
import Derived.Test.YtknlpeloaapaiaaTsM2
import Derived.Test.YtknlpeloaapaiaaTpS3
namespace Go.Proofs.Ytknlpeloaapaiaa
open Go.RowKit
set_option linter.unusedVariables false
set_option linter.unusedSimpArgs false

/-- A function that tells of a number, where J holds. -/
def DelOf (g : FuncId) (q : Value) (p : Int → Bool) (J : World → Prop) : Prop :=
  ∀ (wz : World) (x : Int), J wz → R64 x → Calls Try.prog g #[.int .i64 x, q] wz fun e w' => e = .returned (.bool (p x)) ∧ Below wz.heap.size wz w'
def Jst (J : World → Prop) : Prop := ∀ w w' : World, J w → Below w.heap.size w w' → J w'
def fst1 (p : Int → Bool) : List Int → Nat → Int
  | [], _ => -1
  | x :: r, i => if p x then i else fst1 p r (i + 1)
theorem fst1_at {p : Int → Bool} {l : List Int} {k : Nat} {x : Int} (hx : l[k]? = some x) : fst1 p (l.drop k) k = if p x then (k : Int) else fst1 p (l.drop (k + 1)) (k + 1) := by
  obtain ⟨h1, e1⟩ := List.getElem?_eq_some_iff.1 hx
  rw [List.drop_eq_getElem_cons h1, e1, fst1]

set_option maxHeartbeats 1000000 in
set_option maxRecDepth 100000 in
theorem idxF_any (g : FuncId) (q : Value) (p : Int → Bool) (J : World → Prop) (en : Enters g) (st : Jst J) (hd : DelOf g q p J) (w : World) (v : Value) (l : List Int) (hJ : J w) (h : Ls w Any v l) (h64 : ∀ x ∈ l, R64 x) : Calls Try.prog 98 #[v, .func (.func g) #[] #[q]] w fun e w' => e = .returned (.int .i64 (fst1 p l 0)) ∧ Below w.heap.size w w' := by
  unfold Enters at en
  obtain ⟨a, c, rfl, hm⟩ := h.form
  unfold maxLen at hm
  have HD := hid hd
  have HST := hid st
  have H64 := hid h64
  have HL := hid h
  have HJ := hid hJ
  clear hd st h64 h hJ
  go_enter Try.func98, Try.ntmps98
  go_wp2
  go_loopw [8] (fun v wr => ∃ k : Nat, v = .int .i64 k ∧ k ≤ l.length ∧ Hid (fst1 p l 0 = fst1 p (l.drop k) k) ∧ Hid (J wr) ∧ Hid (Below w.heap.size w wr)) (fun v _ => l.length - (intOf v).toNat)
  case atStart => exact ⟨0, rfl, Nat.zero_le _, rfl, HJ, Below.refl _ _⟩
  case round =>
    obtain ⟨k, rfl, hk, hH, hJ, hB⟩ := hrel
    clear HJ
    by_cases hlt : k < l.length
    · obtain ⟨b, o, c', hv, -, -, -, hl⟩ := HL.out.resolve_right (fun h => by rw [h.1] at hlt; exact absurd hlt (Nat.not_lt_zero _))
      injection hv with e1 e2 e3
      subst e1
      obtain ⟨x, hx⟩ : ∃ x, l[k]? = some x := ⟨_, List.getElem?_eq_getElem hlt⟩
      have hc := (hB.out.cell (p := ⟨b, o + k, none⟩) (World.block_lt_of_cell? _ _ (hl k x hx))).trans (hl k x hx)
      have HX := hH.out
      rw [fst1_at hx] at HX
      have hQ := hid (HD.out wr x hJ.out (H64.out x (List.mem_of_getElem? hx)))
      clear hl hx hH e2 e3
      cases hp : p x with
      | true =>
        rw [hp] at hQ HX
        simp only [if_true] at HX
        have HY := hid HX
        clear HX hp
        go_wp2_with (refine hQ.out.mono ?_; rintro e w3 ⟨rfl, hb3⟩; have HB3 := hid hb3; clear hb3)
        go_ret
        exact ⟨ret_int HY.out.symm, bl_tr hB.out HB3.out⟩
      | false =>
        rw [hp] at hQ HX
        simp only [Bool.false_eq_true, if_false] at HX
        have HY := hid HX
        clear HX hp
        go_wp2_with (refine hQ.out.mono ?_; rintro e w3 ⟨rfl, hb3⟩; have HB3 := hid hb3; clear hb3)
        go_roundw
        case rel => exact ⟨k + 1, by go_num, by omega, HY, HST.out _ _ hJ.out HB3.out, bl_tr hB.out HB3.out⟩
        case measure => simp [intOf]; omega
    · have HX := hH.out
      rw [List.drop_eq_nil_of_le (by omega), fst1] at HX
      have HY := hid HX
      clear HX hH
      go_wp2
      go_ret
      exact ⟨ret_int HY.out.symm, hB.out⟩

theorem fst1_spec (p : Int → Bool) : ∀ (l : List Int) (i : Nat), (fst1 p l i = -1 ∧ l.filter (fun x => !p x) = l) ∨ ∃ k : Nat, fst1 p l i = ((i + k : Nat) : Int) ∧ k < l.length ∧ (l.take (k + 1)).filter (fun x => !p x) = l.take k
  | [], i => .inl ⟨rfl, rfl⟩
  | x :: r, i => by
    rw [fst1]
    cases hp : p x with
    | true => exact .inr ⟨0, by simp, by simp, by simp [hp]⟩
    | false =>
      simp only [Bool.false_eq_true, if_false]
      rcases fst1_spec p r (i + 1) with ⟨h1, h2⟩ | ⟨k, h1, h2, h3⟩
      · exact .inl ⟨h1, by simp [hp, h2]⟩
      · exact .inr ⟨k + 1, by rw [h1]; congr 1; omega, by simpa using h2, by rw [List.take_succ_cons, List.filter_cons]; simp [hp, h3]⟩
structure Dl (l : List Int) (p : Int → Bool) (g base : Nat) (w : World) (i j : Nat) (cur : List Value) (wr : World) : Prop where
  bl : Below base w wr
  arr : Arr wr g 3 cur
  hi : ((l.take j).filter (fun x => !p x)).length = i
  lt : i < j
  hj : j ≤ l.length
  hcl : l.length ≤ cur.length
  done : ∀ (m : Nat) x, ((l.take j).filter (fun x => !p x))[m]? = some x → cur[m]? = some (.int .i64 x)
  todo : ∀ (m : Nat) x, j ≤ m → l[m]? = some x → cur[m]? = some (.int .i64 x)
theorem take_next {l : List Int} {j : Nat} {x : Int} (hx : l[j]? = some x) : l.take (j + 1) = l.take j ++ [x] := by rw [List.take_add_one, hx]; rfl
theorem Dl.skip {l : List Int} {p : Int → Bool} {g base : Nat} {w : World} {i j : Nat} {cur : List Value} {wr wz : World} (h : Dl l p g base w i j cur wr) (hb : base ≤ wr.heap.size) (hz : Below wr.heap.size wr wz) {x : Int} (hx : l[j]? = some x) (hp : p x = true) : Dl l p g base w i (j + 1) cur wz := by
  have hf : (l.take (j + 1)).filter (fun x => !p x) = (l.take j).filter (fun x => !p x) := by rw [take_next hx, List.filter_append]; simp [hp]
  exact ⟨h.bl.trans (hz.mono hb), h.arr.stays hz, by rw [hf]; exact h.hi, by have := h.lt; omega, (List.getElem?_eq_some_iff.1 hx).1, h.hcl, fun m y hy => h.done m y (by rw [hf] at hy; exact hy), fun m y hm hy => h.todo m y (by omega) hy⟩
theorem Dl.keep {l : List Int} {p : Int → Bool} {g base : Nat} {w : World} {i j : Nat} {cur : List Value} {wr wz : World} (h : Dl l p g base w i j cur wr) (hg : base ≤ g) (hb : base ≤ wr.heap.size) (hz : Below wr.heap.size wr wz) {x : Int} (hx : l[j]? = some x) (hp : p x = false) : Dl l p g base w (i + 1) (j + 1) (cur.set i (.int .i64 x)) (wz.setCell ⟨g, i, none⟩ (.int .i64 x)) := by
  have hf : (l.take (j + 1)).filter (fun x => !p x) = (l.take j).filter (fun x => !p x) ++ [x] := by rw [take_next hx, List.filter_append]; simp [hp]
  have hlt := h.lt
  have hj := (List.getElem?_eq_some_iff.1 hx).1
  have hcl := h.hcl
  refine ⟨(h.bl.trans (hz.mono hb)).setCell hg _, (h.arr.stays hz).set i _, by rw [hf, List.length_append, h.hi]; rfl, by omega, hj, by rw [List.length_set]; exact h.hcl, fun m y hy => ?_, fun m y hm hy => ?_⟩
  · rw [hf] at hy
    rw [List.getElem?_append, h.hi] at hy
    by_cases hm : m < i
    · rw [if_pos hm] at hy
      rw [List.getElem?_set_ne (by omega)]
      exact h.done m y hy
    · rw [if_neg hm] at hy
      by_cases he : m - i = 0
      · rw [he] at hy
        simp at hy
        subst hy
        obtain rfl : m = i := by omega
        rw [List.getElem?_set_self (by omega)]
      · rw [List.getElem?_eq_none (by simp; omega)] at hy
        cases hy
  · rw [List.getElem?_set_ne (by omega)]
    exact h.todo m y (by omega) hy
theorem bl_setCells {B : Nat} {w : World} (g : Nat) (hg : B ≤ g) : ∀ (vs : List Value) (o : Nat) (w1 : World), Below B w w1 → Below B w (w1.setCells g o vs)
  | [], _, _, h => h
  | v :: r, o, w1, h => bl_setCells g hg r (o + 1) _ (h.setCell (p := ⟨g, o, none⟩) hg v)

set_option maxHeartbeats 2000000 in
set_option maxRecDepth 100000 in
theorem delF_any (g : FuncId) (q : Value) (p : Int → Bool) (J : World → Prop) (en : Enters g) (st : Jst J) (hd : DelOf g q p J) (w : World) (base : Nat) (v : Value) (l : List Int) (hJ : J w) (h : w.ownsRow base 3 1 v l.length (l.map (.int .i64))) (hbw : base ≤ w.heap.size) (h64 : ∀ x ∈ l, R64 x) (hJs : ∀ w' (b o : Nat) u, v.ownBlock = some b → J w' → J (w'.setCell ⟨b, o, none⟩ u)) (hlen : l.length ≤ 1048576) : Calls Try.prog 66 #[v, .func (.func g) #[] #[q]] w fun e w' => ∃ v', e = .returned v' ∧ Ls w' Any v' (l.filter fun x => !p x) ∧ Below base w w' := by
  have hI := hid (idxF_any g q p J en st hd w v l hJ (Ls.of_own h) h64)
  unfold Enters at en
  have HD := hid hd
  have HST := hid st
  have HJS := hid hJs
  have H64 := hid h64
  have HO := hid h
  have HJ := hid hJ
  have HBW := hid hbw
  obtain ⟨a, c, rfl⟩ := own_form h
  clear hd st hJs h64 h hJ hbw
  rcases fst1_spec p l 0 with ⟨h1, h2⟩ | ⟨k0, h1, h2, h3⟩
  · rw [h1] at hI
    have H2 := hid h2
    clear h1 h2
    go_enter Try.func66, Try.ntmps66
    go_wp2_with (go_at_call 98; refine hI.out.mono ?_; rintro e w3 ⟨rfl, hb3⟩; have HB3 := hid hb3; clear hb3)
    go_ret
    refine ⟨_, rfl, ?_, HB3.out.mono HBW.out⟩
    rw [H2.out]
    exact (Ls.of_own HO.out).below HB3.out
  · rw [Nat.zero_add] at h1
    rw [h1] at hI
    obtain ⟨b, cap, cur, hv, hbg, hh, hnc, hcm, hcs, htk⟩ : ∃ b cap cur, Value.slice a l.length c = .slice (some ⟨b, 0, none⟩) l.length cap ∧ base ≤ b ∧ w.heap[b]? = some (.cells cur 3 (0, 0)) ∧ l.length ≤ cap ∧ cap ≤ maxLen ∧ cur.size = cap * 1 ∧ cur.toList.take (l.length * 1) = l.map (.int .i64) := by
      rcases HO.out.2 with ⟨-, h0⟩ | h0
      · omega
      · exact h0
    injection hv with e1 e2 e3
    subst e1
    subst e3
    rw [Nat.mul_one] at hcs htk
    have hcur : ∀ (m : Nat) x, l[m]? = some x → cur.toList[m]? = some (.int .i64 x) := by
      intro m x hx
      have h4 : (l.map (Value.int .i64))[m]? = some (.int .i64 x) := by rw [List.getElem?_map, hx]; rfl
      rw [← htk, List.getElem?_take] at h4
      split at h4
      · exact h4
      · cases h4
    have HDl : Hid (∀ w3, Below w.heap.size w w3 → Dl l p b base w k0 (k0 + 1) cur.toList w3) := by
      intro w3 hb3
      refine ⟨hb3.mono HBW.out, Arr.stays ⟨by rw [hh]⟩ hb3, by rw [h3, List.length_take]; omega, by omega, h2, by have : cur.toList.length = cur.size := Array.length_toList; omega, fun m x hx => ?_, fun m x _ hx => hcur m x hx⟩
      rw [h3, List.getElem?_take] at hx
      split at hx
      · exact hcur m x hx
      · cases hx
    have hcap : c ≤ 9223372036854775807 := by unfold maxLen at hcm; exact hcm
    have HG := hid hbg
    have HNC := hid hnc
    clear hcur hh hcm hcs htk h1 h3 e2 hbg HO
    go_enter Try.func66, Try.ntmps66
    go_wp2_with (go_at_call 98; refine hI.out.mono ?_; rintro e w3 ⟨rfl, hb3⟩; have HB3 := hid hb3; clear hb3)
    have HS : Hid (Dl l p b base w k0 (k0 + 1) cur.toList w3) := HDl.out _ HB3.out
    have HJ3 : Hid (J w3) := HST.out _ _ HJ.out HB3.out
    have HSZ : Hid (base ≤ w3.heap.size) := Nat.le_trans HBW.out HB3.out.size
    clear HDl HB3 hI HJ
    go_loopw [5, 6] (fun v5 v6 wr => ∃ (i j : Nat) (cu : List Value), v5 = .int .i64 i ∧ v6 = .int .i64 j ∧ Hid (Dl l p b base w i j cu wr) ∧ Hid (J wr) ∧ Hid (base ≤ wr.heap.size)) (fun _ v6 _ => l.length - (intOf v6).toNat)
    case atStart => exact ⟨k0, k0 + 1, _, rfl, by go_num, HS, HJ3, HSZ⟩
    case round =>
      obtain ⟨i, j, cu, rfl, rfl, hDl, hJ, hsz⟩ := hrel
      clear HS HJ3 HSZ
      by_cases hlt : j < l.length
      · obtain ⟨x, hx⟩ : ∃ x, l[j]? = some x := ⟨_, List.getElem?_eq_getElem hlt⟩
        have hij := hDl.out.lt
        have hc := (hDl.out.arr.cell j).trans (hDl.out.todo j x (Nat.le_refl _) hx)
        have hQ := hid (HD.out wr x hJ.out (H64.out x (List.mem_of_getElem? hx)))
        have HX := hid hx
        have hilt : i < l.length := by omega
        clear hx
        cases hp : p x with
        | true =>
          rw [hp] at hQ
          have HP := hid hp
          clear hp
          go_wp2_with (refine hQ.out.mono ?_; rintro e w3 ⟨rfl, hb3⟩; have HB3 := hid hb3; clear hb3)
          go_roundw
          case rel => refine ⟨_, _, _, _, _, _, _, _, _, _, _, _, _, _, _, _, _, _, _, _, _, _, _, ?rr, rfl⟩; exact ⟨i, j + 1, cu, by go_num, by go_num, hDl.out.skip hsz.out HB3.out HX.out HP.out, HST.out _ _ hJ.out HB3.out, Nat.le_trans hsz.out HB3.out.size⟩
          case measure => simp [intOf]; omega
        | false =>
          rw [hp] at hQ
          have HP := hid hp
          clear hp
          obtain ⟨u, hu⟩ : ∃ u, cu[i]? = some u := ⟨_, List.getElem?_eq_getElem (by have := hDl.out.hcl; omega)⟩
          go_wp2_with (refine hQ.out.mono ?_; rintro e w3 ⟨rfl, hb3⟩; have HB3 := hid hb3; have z0 := ((hDl.out.arr.stays hb3).cell i).trans hu; have z1 := (hDl.out.arr.stays hb3).frozen; clear hb3)
          go_roundw
          case rel => refine ⟨_, _, _, _, _, _, _, _, _, _, _, _, _, _, _, _, _, _, _, _, _, _, _, ?rr2, rfl⟩; exact ⟨i + 1, j + 1, _, by go_num, by go_num, hDl.out.keep HG.out hsz.out HB3.out HX.out HP.out, HJS.out _ _ _ _ rfl (HST.out _ _ hJ.out HB3.out), Nat.le_trans hsz.out (by simp [World.setCell]; exact HB3.out.size)⟩
          case measure => simp [intOf]; omega
      · have hje : j = l.length := by have := hDl.out.hj; omega
        subst hje
        have hij := hDl.out.lt
        have hclr : Hid (∀ ty, (Builtin.clear_ #[32] ty #[.slice (some ⟨b, i, none⟩) (l.length - i) (c - i)]).run Try.prog wr = .ok (.tuple #[]) (wr.setCells b i (List.replicate (l.length - i) (.int .i64 0)))) := by
          intro ty
          refine Go.Lib.run_clear_slice wr _ 3 ty (.int .i64 0) Try.underlying32 zero_int12 rfl rfl b i (l.length - i) (c - i) (by omega) (fun m hm => ?_) (fun m hm => hDl.out.arr.frozen _)
          rw [hDl.out.arr.cell, List.getElem?_eq_getElem (by have := hDl.out.hcl; omega)]
          rfl
        have hclr2 := hclr.out
        have hcapi : l.length ≤ c := HNC.out
        go_wp2
        go_ret
        refine ⟨.slice (some ⟨b, 0, none⟩) i c, rfl, ?_, bl_setCells b HG.out _ _ _ hDl.out.bl⟩
        have hfl : (l.filter fun x => !p x).length = i := by have := hDl.out.hi; rw [List.take_length] at this; exact this
        have hdn := hDl.out.done
        rw [List.take_length] at hdn
        refine .inl ⟨b, 0, c, by rw [hfl], trivial, by omega, by unfold maxLen; omega, fun m x hx => ?_⟩
        have hm : m < i := by rw [← hfl]; exact (List.getElem?_eq_some_iff.1 hx).1
        rw [Nat.zero_add, World.cell?_setCells_out b _ _ _ _ (fun _ _ => .inl hm), hDl.out.arr.cell]
        exact hdn m x hx
end Go.Proofs.Ytknlpeloaapaiaa
