/- What the document's Set comes to; the walk of NamesSets. -/
import Derived.Laws.AppendOwnNone
import Derived.Test.YtcccmbiocknknaaDoorRefSet
import Derived.Test.YtcccmbiocknknaaDoorOrderW
import Derived.Test.YtcccmbiocknknaaDoorArg
namespace Go.Proofs.YtcccmbiocknknaaDoor
open Go.ChangeShapes Go.WideShapes Go.ChangeAt Go.RowKit Go.Shelf
set_option linter.unusedVariables false

theorem Nm.set_step {xs ys : List ByteArray} {s : ByteArray} (h : IsSet (Nm.datas xs) (Nm.datas ys)) : IsSet (Nm.datas (xs ++ [s])) (Nm.datas (Nm.put s ys)) := by
  have inj : ∀ {a b : ByteArray}, a.data.toList = b.data.toList → a = b := fun h => bytes_inj' h
  refine ⟨?_, fun x => ?_⟩
  · have h1 := h.asc
    unfold Nm.datas at h1 ⊢
    rw [List.pairwise_map] at h1 ⊢
    exact Nm.put_asc s ys h1
  · have hm := h.mem
    unfold Nm.datas at hm ⊢
    simp only [List.mem_map] at hm ⊢
    constructor
    · rintro ⟨a, ha, rfl⟩
      rcases (Nm.put_mem s a ys).1 ha with rfl | ha
      · exact ⟨a, by simp, rfl⟩
      · obtain ⟨b, hb, e⟩ := (hm a.data.toList).1 ⟨a, ha, rfl⟩
        exact ⟨b, by simp [hb], e⟩
    · rintro ⟨a, ha, rfl⟩
      rcases List.mem_append.1 ha with ha | ha
      · obtain ⟨b, hb, e⟩ := (hm a.data.toList).2 ⟨a, ha, rfl⟩
        exact ⟨b, (Nm.put_mem s b ys).2 (.inr hb), e⟩
      · obtain rfl : a = s := by simpa using ha
        exact ⟨a, (Nm.put_mem a a ys).2 (.inl rfl), rfl⟩

set_option maxHeartbeats 2000000 in
theorem refSet_any (v : Value) (xs : List ByteArray) (w : World) (hv : Strs w v xs) (hl : xs.length * 16 ≤ 140737488355328) (hxs : ∀ x, x ∈ xs → x.size ≤ 9223372036854775807) :
    Calls Tryd.prog 26 #[v] w fun e W' => (∃ v' zs, e = .returned v' ∧ Strs W' v' zs ∧ IsSet (Nm.datas xs) (Nm.datas zs) ∧ zs.length ≤ xs.length) ∧ Below w.heap.size w W' := by
  obtain ⟨va, vc, hvf⟩ := hv.form
  have HV : Hid (Strs w v xs) := hv
  have HY : Hid (∀ y, y ∈ xs → y.size ≤ 9223372036854775807) := hxs
  subst hvf
  clear hv hxs
  go_enter Tryd.func26, Tryd.ntmps26
  go_wp2
  go_loopw [3, 4] (fun ov iv wr => ∃ (k : Nat) (zs : List ByteArray), iv = .int .i64 k ∧ k ≤ xs.length ∧ zs.length ≤ k ∧ Hid (IsSet (Nm.datas (xs.take k)) (Nm.datas zs)) ∧ Hid (Strs wr ov zs) ∧ Below w.heap.size w wr) (fun _ iv _ => xs.length - (intOf iv).toNat)
  case atStart => exact ⟨0, [], rfl, Nat.zero_le _, Nat.le_refl _, ⟨List.Pairwise.nil, fun x => Iff.rfl⟩, Strs.nil _ _ _, Below.refl _ _⟩
  case round =>
    obtain ⟨k, zs, rfl, hk, hzl, hset, hst, hB⟩ := hrel
    by_cases hlt : k < xs.length
    · obtain ⟨y, hy⟩ : ∃ y, xs[k]? = some y := ⟨_, List.getElem?_eq_getElem hlt⟩
      have hysz := HY.out y (List.mem_of_getElem? hy)
      obtain ⟨b, o, c, hv2, hc0⟩ : ∃ b o c, Value.slice va xs.length vc = .slice (some ⟨b, o, none⟩) xs.length c ∧ w.cell? ⟨b, o + k, none⟩ = some (.string y) := by
        rcases HV.out with ⟨b, o, c, e, h⟩ | ⟨e, _⟩
        · exact ⟨b, o, c, e, h k y hy⟩
        · rw [e] at hlt; simp at hlt
      obtain ⟨rfl, rfl⟩ : va = some ⟨b, o, none⟩ ∧ vc = c := by injection hv2 with e1 e2 e3; exact ⟨e1, e3⟩
      have hc : wr.cell? ⟨b, o + k, none⟩ = some (.string y) := (hB.cell (World.block_lt_of_cell? _ _ hc0)).trans hc0
      have hzx : ∀ z, z ∈ zs → z.size ≤ 9223372036854775807 := fun z hz => by
        have h1 := (hset.out.mem z.data.toList).1 (List.mem_map.2 ⟨z, hz, rfl⟩)
        obtain ⟨q, hq, e⟩ := List.mem_map.1 h1
        rw [← bytes_inj' e]
        exact HY.out q (List.mem_of_mem_take hq)
      have hput := refPut_any _ zs y wr hst.out (by omega) hysz hzx
      have HS : Hid (IsSet (Nm.datas (xs.take (k + 1))) (Nm.datas (Nm.put y zs))) := by
        show IsSet _ _
        rw [List.take_add_one, hy]
        exact Nm.set_step hset.out
      have hpl := Nm.put_len y zs
      clear hv2 HV HY hc0 hset hst hy hzx
      go_wp2_with (go_at_call 51; refine hput.mono ?_; rintro e w2 ⟨⟨v2, rfl, hrow2⟩, hb2⟩)
      go_roundw
      case rel => exact ⟨k + 1, Nm.put y zs, by go_num, by omega, by omega, HS, Strs.own hrow2, btr hB hb2⟩
      case measure => simp [intOf]; omega
    · have HS : Hid (IsSet (Nm.datas xs) (Nm.datas zs)) := by have := hset.out; rwa [List.take_of_length_le (by omega)] at this
      clear HV HY hset
      go_wp2
      go_ret
      exact ⟨⟨_, zs, rfl, hst, HS, by omega⟩, hB⟩

theorem arg_shape {H : Type} {enc : TypeId × Value → H} {W : World} {base : Nat} {v : Value} {d : DataW H} {p : List MemPlace} (hok : Value.okWide Tryd.prog W .any base 22 v)
    (h : DataW.Trod enc Tryd.prog W 0 (fun _ => true) true 22 v d p) : v = .slice none 0 0 ∨ ∃ ad n c, v = .slice (some ad) n c := by
  obtain ⟨a0, len, cap, rfl⟩ := Go.WideShapes.okWide_slice Tryd.underlying22 hok
  obtain ⟨fuel, hf⟩ := h
  rcases open_strings Tryd.underlying22 Tryd.underlying9 cells_string hf with ⟨hcs, hx⟩ | ⟨a, len', cap', ss, hcs, _, hl, hm, hz, hx, hcell, hw⟩
  · simp [Value.cells] at hcs
    obtain ⟨rfl, rfl, rfl⟩ := hcs
    exact .inl rfl
  · simp [Value.cells] at hcs
    obtain ⟨rfl, rfl, rfl⟩ := hcs
    exact .inr ⟨_, _, _, rfl⟩

theorem Nm.one (xs : List ByteArray) : ∀ u, u ∈ xs.map Value.string → u.oneCell' = true := by
  intro u hu
  obtain ⟨x, _, rfl⟩ := List.mem_map.1 hu
  rfl
theorem copy_src {w : World} {v : Value} {xs : List ByteArray} {ad : Addr} {n c : Nat} (h : Strs w v xs) (hv : v = .slice (some ad) n c) (o : Obj) : ∀ j u, (xs.map Value.string)[j]? = some u → (w.alloc o).cell? (ad.add j) = some u := by
  intro j u hu
  rw [List.getElem?_map] at hu
  obtain ⟨x, hx, rfl⟩ := Option.map_eq_some_iff.1 hu
  rcases h with ⟨b, f, c2, e, h⟩ | ⟨rfl, _⟩
  · rw [hv] at e
    injection e with e1
    cases e1
    have hc : w.cell? ⟨b, f + j, none⟩ = some (.string x) := h j x hx
    have hc2 := ((Below.refl w.heap.size w).alloc (Nat.le_refl _) o |>.cell (World.block_lt_of_cell? _ _ hc)).trans hc
    rw [add_plain]; exact hc2
  · cases j <;> cases hx

/-- What stands behind the copy: Set, Cmp, the document's both, the set's cells written over, the copy as it was. -/
theorem spoil_next {W : World} {g k n : Nat} {zs : List ByteArray} {u : Value} (h : ∀ (j : Nat) x, k ≤ j → zs[j]? = some x → W.cell? ⟨g, j, none⟩ = some (.string x) ∧ W.frozen? ⟨g, j, none⟩ = false) :
    ∀ (j : Nat) x, k + 1 ≤ j → zs[j]? = some x → (W.setCell ⟨g, k, none⟩ u).cell? ⟨g, j, none⟩ = some (.string x) ∧ (W.setCell ⟨g, k, none⟩ u).frozen? ⟨g, j, none⟩ = false := by
  intro j x hj hx
  obtain ⟨h1, h2⟩ := h j x (by omega) hx
  refine ⟨?_, ?_⟩
  · rw [World.cell?_setCell_other]
    · exact h1
    · intro e; injection e with _ e2; omega
  · rw [World.frozen?_setCell]; exact h2

set_option maxRecDepth 100000 in
set_option maxHeartbeats 4000000 in
theorem sets_some (a b : ByteArray) (ad : Addr) (c : Nat) (xs : List ByteArray) (w : World) (hv : Strs w (.slice (some ad) xs.length c) xs) (hl : xs.length * 16 ≤ 140737488355328) (ha : a.size ≤ 9223372036854775807) (hb : b.size ≤ 9223372036854775807) (hxs : ∀ x, x ∈ xs → x.size ≤ 9223372036854775807) :
    Calls Tryd.prog 4 #[.string a, .string b, .slice (some ad) xs.length c] w fun e w' => e = .returned (.bool true) ∧ Below w.heap.size w w' := by
  obtain ⟨i0, hi, hz0, hz1, hz2⟩ := info_parts info_string
  have HX : Hid (∀ x, x ∈ xs → x.size ≤ 9223372036854775807) := hxs
  have hmade := World.ownsRow_made (base := w.heap.size) (e := 9) (size := 1) w #[] 0 (Nat.le_refl _) (by decide) rfl
  have HS : Hid (∀ j u, (xs.map Value.string)[j]? = some u → (w.alloc (.cells #[] 9)).cell? (ad.add j) = some u) := copy_src hv rfl _
  have hN : xs.length ≤ 8796093022208 := by omega
  have hcmp := fun w => refCmp_any a b ha hb w
  generalize hcv : Lib.compareBytes a.data.toList b.data.toList = cv at hcmp
  have HC : Hid (Lib.compareBytes a.data.toList b.data.toList = cv) := hcv
  have HV : Hid (Strs w (.slice (some ad) xs.length c) xs) := hv
  clear hcv hxs hv ha hb
  go_enter Tryd.func4, Tryd.ntmps4
  go_wp2_with (first
      | (at_builtin; refine wpList_append_own _ rfl _ _ 22 rfl w.heap.size 9 i0 (.string ⟨#[]⟩) 1 16 Tryd.underlying22 hi hz0 hz1 hz2 rfl (by decide) _ _ _ rfl hmade ad xs.length c (xs.map Value.string) rfl (by simp) HS.out (Nm.one xs) (by unfold maxLen; omega) (by omega) (by simp) ?_; intro v1 w1 hown1 hgrow _; have hB1 : Below w.heap.size w w1 := ((Below.refl _ _).alloc (Nat.le_refl _) _).grown hgrow (by simp) (own_block hmade); rw [Nat.zero_add, List.nil_append] at hown1; have st1 : Strs w1 v1 xs := Strs.own hown1; obtain ⟨g1, cap1, hf1⟩ := nm_form hown1; subst hf1)
      | (go_at_call 23; refine (set_any _ _ _ st1 hl).mono ?_; rintro e w2 ⟨v2, ys, rfl, k2, i2, hl2, hb2⟩; have k2s := k2.st; obtain ⟨g2, cap2, hf2⟩ := k2s.form; subst hf2)
      | (go_at_call 24; refine (cmp_is HC _).mono ?_; rintro e w3 ⟨rfl, hw3⟩; rw [hw3]; clear hw3 w3)
      | (go_at_call 25; refine (hcmp _).mono ?_; rintro e w4 ⟨rfl, hD4⟩; have hb4 := hD4.below)
      | (go_at_call 26; refine (refSet_any _ xs _ (HV.out.below (btr (btr hB1 hb2) hb4) (Nat.le_refl _)) hl HX.out).mono ?_; rintro e w5 ⟨⟨v5, zs, rfl, st5, i5, hl5⟩, hb5⟩; have he : zs = ys := datas_inj (i5.unique i2); subst he)
      | (go_at_call 10; refine (texts_any _ _ _ _ _ ((k2s.below hb4 (Nat.le_refl _)).below hb5 (Nat.le_refl _)) st5 (by unfold maxLen; omega) (by unfold maxLen; omega)).mono ?_; rintro e w6 ⟨rfl, hD6⟩; have hb6 := Drew.below hD6))
  have B16 : Below w1.heap.size w1 w6 := btr (btr (btr hb2 hb4) hb5) hb6
  have B26 : Below w2.heap.size w2 w6 := btr (btr hb4 hb5) hb6
  have HST : Hid (Strs w1 (.slice g1 xs.length cap1) xs) := st1
  have HE : Hid (∀ {wr : World}, Below w1.heap.size w1 wr → Below w.heap.size w wr) := fun {wr} h => hB1.trans (h.mono hB1.size)
  by_cases h0 : zs = []
  · subst h0
    clear hown1 hgrow st1 k2 k2s hb2 hb4 hb5 hb6 i2 i5 st5 hD4 hD6 HC HS hmade hcmp hl2 hl5 B26
    go_loopw [9] (fun iv wr => iv = .int .i64 0 ∧ wr = w6) (fun _ _ => 0)
    case atStart => exact ⟨rfl, rfl⟩
    case round =>
      obtain ⟨rfl, rfl⟩ := hrel
      go_wp2_with (first
        | (go_at_call 10; refine (texts_any _ _ _ _ _ (HST.out.below B16 (Nat.le_refl _)) (HV.out.below (HE.out B16) (Nat.le_refl _)) (by unfold maxLen; omega) (by unfold maxLen; omega)).mono ?_; rintro e w7 ⟨rfl, hD7⟩; have hb7 := Drew.below hD7)
        | (go_at_call 22; refine (alive_any _).mono ?_; rintro e w8 ⟨rfl, hb8⟩))
      go_ret
      exact ⟨rfl, btr (btr (HE.out B16) hb7) hb8⟩
  · obtain ⟨G, cG, hvG, hG, hcells⟩ := k2.resolve_left (fun h => h0 h.1)
    obtain ⟨hh2, -⟩ : g2 = some ⟨G, 0, none⟩ ∧ cap2 = cG := by injection hvG with q1 q2 q3; exact ⟨q1, q3⟩
    subst hh2
    have HCL : Hid (∀ (j : Nat) x, 0 ≤ j → zs[j]? = some x → w6.cell? ⟨G, j, none⟩ = some (.string x) ∧ w6.frozen? ⟨G, j, none⟩ = false) := fun j x _ hx => by
      obtain ⟨q1, q2⟩ := hcells j x hx
      rw [Nat.zero_add] at q1 q2
      have hlt := World.block_lt_of_cell? _ _ q1
      exact ⟨(B26.cell hlt).trans q1, (B26.frozen hlt).trans q2⟩
    clear hown1 hgrow st1 k2 k2s hb2 hb4 hb5 hb6 i2 i5 st5 hD4 hD6 HC HS hmade hcmp hl5 B26 hcells hvG h0
    go_loopw [9] (fun iv wr => ∃ k : Nat, iv = .int .i64 k ∧ k ≤ zs.length ∧ Hid (∀ (j : Nat) x, k ≤ j → zs[j]? = some x → wr.cell? ⟨G, j, none⟩ = some (.string x) ∧ wr.frozen? ⟨G, j, none⟩ = false) ∧ Below w1.heap.size w1 wr) (fun iv _ => zs.length - (intOf iv).toNat)
    case atStart => exact ⟨0, rfl, Nat.zero_le _, HCL, B16⟩
    case round =>
      obtain ⟨k, rfl, hk, hc, hB⟩ := hrel
      clear HCL
      by_cases hlt : k < zs.length
      · obtain ⟨x, hx⟩ : ∃ x, zs[k]? = some x := ⟨_, List.getElem?_eq_getElem hlt⟩
        obtain ⟨c1, c2⟩ := hc.out k x (Nat.le_refl _) hx
        have HN : Hid (∀ (j : Nat) x, k + 1 ≤ j → zs[j]? = some x → (wr.setCell ⟨G, k, none⟩ (.string ⟨#[115, 112, 111, 105, 108, 116]⟩)).cell? ⟨G, j, none⟩ = some (.string x) ∧ (wr.setCell ⟨G, k, none⟩ (.string ⟨#[115, 112, 111, 105, 108, 116]⟩)).frozen? ⟨G, j, none⟩ = false) := spoil_next (n := 0) hc.out
        clear hc hx
        go_wp2
        go_roundw
        case rel => exact ⟨k + 1, by go_num, by omega, HN, hB.setCell hG _⟩
        case measure => simp [intOf]; omega
      · clear hc
        go_wp2_with (first
          | (go_at_call 10; refine (texts_any _ _ _ _ _ (HST.out.below hB (Nat.le_refl _)) (HV.out.below (HE.out hB) (Nat.le_refl _)) (by unfold maxLen; omega) (by unfold maxLen; omega)).mono ?_; rintro e w7 ⟨rfl, hD7⟩; have hb7 := Drew.below hD7)
          | (go_at_call 22; refine (alive_any _).mono ?_; rintro e w8 ⟨rfl, hb8⟩))
        go_ret
        exact ⟨rfl, btr (btr (HE.out hB) hb7) hb8⟩

set_option maxRecDepth 100000 in
set_option maxHeartbeats 4000000 in
theorem sets_none (a b : ByteArray) (w : World) (ha : a.size ≤ 9223372036854775807) (hb : b.size ≤ 9223372036854775807) :
    Calls Tryd.prog 4 #[.string a, .string b, .slice none 0 0] w fun e w' => e = .returned (.bool true) ∧ Below w.heap.size w w' := by
  obtain ⟨i0, hi, hz0, hz1, hz2⟩ := info_parts info_string
  have hmade := World.ownsRow_made (base := w.heap.size) (e := 9) (size := 1) w #[] 0 (Nat.le_refl _) (by decide) rfl
  have hcmp := fun w => refCmp_any a b ha hb w
  generalize hcv : Lib.compareBytes a.data.toList b.data.toList = cv at hcmp
  have HC : Hid (Lib.compareBytes a.data.toList b.data.toList = cv) := hcv
  have hset := fun (w : World) => set_any (.slice (some ⟨w.heap.size, 0, none⟩) 0 0) [] (w.alloc (.cells #[] 9)) (Strs.nil _ _ _) (by decide)
  have hrset := fun (w : World) => refSet_any (.slice none 0 0) [] w (Strs.nil _ _ _) (by decide) (fun x h => by cases h)
  have htx := fun (w : World) (v1 v2 : Value) (h1 : Strs w v1 []) (h2 : Strs w v2 []) => texts_any v1 v2 [] [] w h1 h2 (by decide) (by decide)
  have hB1 : Below w.heap.size w (w.alloc (.cells #[] 9)) := (Below.refl _ _).alloc (Nat.le_refl _) _
  clear hcv ha hb
  go_enter Tryd.func4, Tryd.ntmps4
  go_wp2_with (first
      | (at_builtin; refine wpList_append_own_none rfl _ _ 22 rfl w.heap.size 9 i0 1 Tryd.underlying22 hi _ _ _ rfl hmade rfl ?_)
      | (go_at_call 23; refine (hset w).mono ?_; rintro e w2 ⟨v2, ys, rfl, k2, i2, hl2, hb2⟩; obtain rfl : ys = [] := List.eq_nil_of_length_eq_zero (by simpa using hl2); have k2s := k2.st; obtain ⟨g2, cap2, hf2⟩ := strs_shape k2s; subst hf2)
      | (go_at_call 24; refine (cmp_is HC _).mono ?_; rintro e w3 ⟨rfl, hw3⟩; rw [hw3]; clear hw3 w3)
      | (go_at_call 25; refine (hcmp _).mono ?_; rintro e w4 ⟨rfl, hD4⟩; have hb4 := hD4.below)
      | (go_at_call 26; refine (hrset _).mono ?_; rintro e w5 ⟨⟨v5, zs, rfl, st5, i5, hl5⟩, hb5⟩; obtain rfl : zs = [] := List.eq_nil_of_length_eq_zero (by simpa using hl5))
      | (go_at_call 10; refine (htx _ _ _ (Strs.nil _ _ _) st5).mono ?_; rintro e w6 ⟨rfl, hD6⟩; have hb6 := Drew.below hD6))
  have hBw : Below w.heap.size w w6 := btr (btr (btr (btr hB1 hb2) hb4) hb5) hb6
  clear k2 k2s hb2 hb4 hb5 hb6 i2 i5 st5 hD4 hD6 HC hmade hcmp hset hrset hl2 hl5
  go_loopw [9] (fun iv wr => iv = .int .i64 0 ∧ wr = w6) (fun _ _ => 0)
  case atStart => exact ⟨rfl, rfl⟩
  case round =>
    obtain ⟨rfl, rfl⟩ := hrel
    go_wp2_with (first
      | (go_at_call 10; refine (htx _ _ _ (Strs.nil _ _ _) (Strs.nil _ _ _)).mono ?_; rintro e w7 ⟨rfl, hD7⟩; have hb7 := Drew.below hD7)
      | (go_at_call 22; refine (alive_any _).mono ?_; rintro e w8 ⟨rfl, hb8⟩))
    go_ret
    exact ⟨rfl, btr (btr hBw hb7) hb8⟩

theorem sets_walk (a b : ByteArray) (v : Value) (xs : List ByteArray) (w : World) (hv : Strs w v xs) (hsh : v = .slice none 0 0 ∨ ∃ ad n c, v = .slice (some ad) n c) (hl : xs.length * 16 ≤ 140737488355328) (ha : a.size ≤ 9223372036854775807) (hb : b.size ≤ 9223372036854775807) (hxs : ∀ x, x ∈ xs → x.size ≤ 9223372036854775807) :
    Calls Tryd.prog 4 #[.string a, .string b, v] w fun e w' => e = .returned (.bool true) ∧ Below w.heap.size w w' := by
  rcases hsh with rfl | ⟨ad, n, c, rfl⟩
  · exact sets_none a b w ha hb
  · obtain ⟨a2, c2, e⟩ := hv.form
    injection e with e1 e2 e3
    subst e2
    exact sets_some a b ad c xs w hv hl ha hb hxs
end Go.Proofs.YtcccmbiocknknaaDoor
