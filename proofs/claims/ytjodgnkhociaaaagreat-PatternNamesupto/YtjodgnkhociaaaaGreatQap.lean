/- tree.Binders of the two example patterns. -/
import Derived.OrdersHeld
import Derived.Test.YtjodgnkhociaaaaGreatQal
import Derived.Test.YtjodgnkhociaaaaGreatQam
import Derived.Test.YtjodgnkhociaaaaGreatQao
namespace Go.Proofs.YtjodgnkhociaaaaGreat
open Go.RowKit
set_option linter.unusedVariables false
set_option linter.unusedSimpArgs false

abbrev LST : TypeId := 22
structure Bd (w : World) (F G base : Nat) (T : TypeId) (v : Value) (m : Nat) : Prop where
  fx : Arr w F LST [v]
  fn : Arr w G T [.func (.func 42) #[] #[.pointer (some ⟨F, 0, none⟩), .pointer (some ⟨G, 0, none⟩)]]
  own : w.ownsRow base STT 1 v m (List.replicate m (.string bx))
  lo : F < G
  hi : G < base
  le : base ≤ w.heap.size
theorem Bd.stays {w w' : World} {F G base m : Nat} {T : TypeId} {v : Value} (h : Bd w F G base T v m) (hb : Below w.heap.size w w') : Bd w' F G base T v m := ⟨h.fx.stays hb, h.fn.stays hb, own_stays h.own hb, h.lo, h.hi, Nat.le_trans h.le hb.size⟩
theorem Leaf5.fe {w w' : World} {F base b o : Nat} {k : Int} {s : ByteArray} {n : Int} (h : Leaf5 w b o k s n) (hx : Fe F base w w') (hF : F ≤ base) (hb : b < F) : Leaf5 w' b o k s n := ⟨hx.cells hF hb h.1, Nat.lt_of_lt_of_le h.2 hx.size⟩
theorem enters_bd : Enters 42 := enters_of Tryz.func42 (by kernel_rfl) rfl
set_option maxHeartbeats 4000000 in
set_option maxRecDepth 100000 in
theorem bind_var (w : World) (F G base m : Nat) (T : TypeId) (v : Value) (h : Bd w F G base T v m) (hm : m ≤ 1000) (b o : Nat) (hl : Leaf5 w b o 2 bx 0) (hb : b < F) : Calls Tryz.prog 42 #[.pointer (some ⟨b, o, none⟩), .pointer (some ⟨F, 0, none⟩), .pointer (some ⟨G, 0, none⟩)] w fun e w' => e = .returned (.tuple #[]) ∧ (∃ v', Bd w' F G base T v' (m + 1)) ∧ Fe F base w w' := by
  have hlo := h.lo
  have hhi := h.hi
  have hle := h.le
  have d0 : w.cell? ⟨b, o, none⟩ = some (.int .i64 2) := hl.1 0 _ rfl
  obtain ⟨i0, hi, hz0, hz1, hz2⟩ := info_parts0 info_str
  have HD : Below w.heap.size w w.drew := (Below.refl _ _).drew
  have h0 := h.stays HD
  obtain ⟨a', c', w', hr, h2, h3, h4⟩ := app_one (P := Tryz.prog) (w := w.drew) (base := base) LST STT i0 _ 1 16 Tryz.underlying22 hi hz0 hz1 hz2 rfl (by decide) v m (List.replicate m (.string bx)) [.string bx] h0.own rfl (by simp [Value.oneCell']) (by unfold maxLen; omega) (by omega) h0.le
  have hsd : w.drew.heap.size = w.heap.size := rfl
  have hbk : ∀ k, k < base → w'.heap[k]? = w.heap[k]? := fun k hk => (h3.block k (by rw [size_alloc]; omega) (fun e => by have := (h0.own.lt k e.symm).1; omega)).trans ((Below.heap_alloc _ _ k (by omega)).trans (HD.block k (by omega)))
  have hsz : w.heap.size ≤ w'.heap.size := by have := h3.size; rw [size_alloc] at this; omega
  have A3 : Arr w' F LST [v] := ⟨(hbk F (by omega)).trans h.fx.b⟩
  have G3 : Arr w' G T [.func (.func 42) #[] #[.pointer (some ⟨F, 0, none⟩), .pointer (some ⟨G, 0, none⟩)]] := ⟨(hbk G (by omega)).trans h.fn.b⟩
  have s1 : w.drew.cell? ⟨b, o + 1, none⟩ = some (.string bx) := (HD.cell hl.2).trans (hl.1 1 _ rfl)
  have s1a : ∀ ob, (w.drew.alloc ob).cell? ⟨b, o + 1, none⟩ = some (.string bx) := fun ob => ((bl_alloc (Below.refl _ w.drew) ob).cell (show b < w.heap.size from hl.2)).trans s1
  have s1b : w'.cell? ⟨b, o + 1, none⟩ = some (.string bx) := (World.cell?_of_block (w := w) (hbk b (by omega))).trans (hl.1 1 _ rfl)
  have kF : b ≠ F := by omega
  have s1c : (w'.setCell ⟨F, 0, none⟩ (.slice a' (m + 1) c')).cell? ⟨b, o + 1, none⟩ = some (.string bx) := (World.cell?_of_block (w := w') (Below.heap_setCell _ _ _ _ kF)).trans s1b
  have l0 : w.drew.cell? ⟨F, 0, none⟩ = some v := h0.fx.cell 0
  have l0a : ∀ ob, (w.drew.alloc ob).cell? ⟨F, 0, none⟩ = some v := fun ob => (h0.fx.stays (bl_alloc (Below.refl _ _) ob)).cell 0
  have sc := A3.cell
  have fz := A3.frozen
  have FE : Fe F base w (w'.setCell ⟨F, 0, none⟩ (.slice a' (m + 1) c')) := ⟨h3.os, h3.tape, h3.output, by simp [World.setCell]; exact hsz, fun k hk hn => (Below.heap_setCell _ _ _ _ hn).trans (hbk k hk)⟩
  have kG : G ≠ F := by omega
  have grow : w'.grownBy (w'.setCell ⟨F, 0, none⟩ (.slice a' (m + 1) c')) (some F) := ⟨rfl, rfl, rfl, by simp [World.setCell], fun b _ hb => Below.heap_setCell _ _ _ _ (fun e => hb (by simp [e]))⟩
  have BD : Bd (w'.setCell ⟨F, 0, none⟩ (.slice a' (m + 1) c')) F G base T (.slice a' (m + 1) c') (m + 1) := ⟨A3.set 0 _, G3.off kG _ _, by
      rw [List.replicate_succ']
      exact own_stays_grown h2 grow (fun b e e2 => by have := (h2.lt b e).1; injection e2 with e2; omega), hlo, hhi, by simp [World.setCell]; omega⟩
  have HFIN : Hid (Bd (w'.setCell ⟨F, 0, none⟩ (.slice a' (m + 1) c')) F G base T (.slice a' (m + 1) c') (m + 1) ∧ Fe F base w (w'.setCell ⟨F, 0, none⟩ (.slice a' (m + 1) c')) ∧ Leaf5 (w'.setCell ⟨F, 0, none⟩ (.slice a' (m + 1) c')) b o 2 bx 0) := ⟨BD, FE, hl.fe FE (by omega) hb⟩
  clear h h0 hl h2 h3 h4 hbk hsz A3 G3 FE BD grow HD hle
  go_enter Tryz.func42, Tryz.ntmps42
  go_wp2
  refine wp_region_held_drew (S := fun wz => wz.cell? ⟨b, o + 1, none⟩ = some (.string bx)) (by kernel_rfl) (s1) (fun hS => ?_)
  generalize w.drew = wd at hS hr s1 s1a s1b s1c l0 l0a fz sc HFIN ⊢
  refine wpAnyH_take (i := 1) (v := ?_) rfl (by kernel_rfl) (by kernel_rfl) (by kernel_rfl) (fun _ _ _ h => h) (Or.inl ⟨by rfl, ?_⟩) hS ?_
  rotate_left
  · intro wz hz; go_simp; try with_reducible rfl
  try simp only [Act.put, List.setIfInBounds_toArray, List.set_cons_zero, List.set_cons_succ, List.getElem_toArray, List.getElem_cons_succ, List.getElem_cons_zero]
  refine wpAnyH_take (i := 2) (v := ?_) rfl (by kernel_rfl) (by kernel_rfl) (by kernel_rfl) (fun _ _ _ h => h) (Or.inl ⟨by rfl, ?_⟩) hS ?_
  rotate_left
  · intro wz hz; go_simp; try with_reducible rfl
  try simp only [Act.put, List.setIfInBounds_toArray, List.set_cons_zero, List.set_cons_succ, List.getElem_toArray, List.getElem_cons_succ, List.getElem_cons_zero]
  refine wpAnyH_take (i := 3) (v := ?_) rfl (by kernel_rfl) (by kernel_rfl) (by kernel_rfl) (fun _ _ _ h => h) (Or.inl ⟨by rfl, ?_⟩) hS ?_
  rotate_left
  · intro wz hz; go_simp; try with_reducible rfl
  try simp only [Act.put, List.setIfInBounds_toArray, List.set_cons_zero, List.set_cons_succ, List.getElem_toArray, List.getElem_cons_succ, List.getElem_cons_zero]
  refine wpAnyH_take (i := 4) (v := ?_) rfl (by kernel_rfl) (by kernel_rfl) (by kernel_rfl) (fun _ _ _ h => h) (Or.inl ⟨by rfl, ?_⟩) hS ?_
  rotate_left
  · intro wz hz; go_simp; try with_reducible rfl
  try simp only [Act.put, List.setIfInBounds_toArray, List.set_cons_zero, List.set_cons_succ, List.getElem_toArray, List.getElem_cons_succ, List.getElem_cons_zero]
  refine wpAnyH_ready (rs := [0, 5]) (by kernel_rfl) (by simp) (AllReadyH.cons rfl (fun K hK => ?a1_0) (AllReadyH.cons rfl (fun K hK => ?a1_5) AllReadyH.nil))
  case' a1_0 =>
    go_simp
    refine hK.out _ _ (hS) (fun hSn => ?_)
    clear hK K hS
    have hS := hSn
    clear hSn
    try simp only [Act.put, List.setIfInBounds_toArray, List.set_cons_zero, List.set_cons_succ, List.getElem_toArray, List.getElem_cons_succ, List.getElem_cons_zero]
    refine wpAnyH_ready (rs := [5]) (by kernel_rfl) (by simp) (AllReadyH.cons rfl (fun K hK => ?a2_5) AllReadyH.nil)
    case' a2_5 =>
      go_simp
      refine hK.out _ _ (s1a _) (fun hSn => ?_)
      clear hK K hS
      have hS := hSn
      clear hSn
      try simp only [Act.put, List.setIfInBounds_toArray, List.set_cons_zero, List.set_cons_succ, List.getElem_toArray, List.getElem_cons_succ, List.getElem_cons_zero]
      refine wpAnyH_ready (rs := [6]) (by kernel_rfl) (by simp) (AllReadyH.cons rfl (fun K hK => ?a3_6) AllReadyH.nil)
      case' a3_6 =>
        refine step_app_eq rfl _ _ _ rfl _ _ rfl rfl _ _ hr ?_
        refine hK.out _ _ (s1b) (fun hSn => ?_)
        clear hK K hS
        have hS := hSn
        clear hSn
        try simp only [Act.put, List.setIfInBounds_toArray, List.set_cons_zero, List.set_cons_succ, List.getElem_toArray, List.getElem_cons_succ, List.getElem_cons_zero]
        refine wpAnyH_ready (rs := [7]) (by kernel_rfl) (by simp) (AllReadyH.cons rfl (fun K hK => ?a4_7) AllReadyH.nil)
        case' a4_7 =>
          go_simp
          refine hK.out _ _ (s1c) (fun hSn => ?_)
          clear hK K hS
          have hS := hSn
          clear hSn
          try simp only [Act.put, List.setIfInBounds_toArray, List.set_cons_zero, List.set_cons_succ, List.getElem_toArray, List.getElem_cons_succ, List.getElem_cons_zero]
          refine wpAnyH_done (by kernel_rfl) ?_ _
  case' a1_5 =>
    go_simp
    refine hK.out _ _ (s1a _) (fun hSn => ?_)
    clear hK K hS
    have hS := hSn
    clear hSn
    try simp only [Act.put, List.setIfInBounds_toArray, List.set_cons_zero, List.set_cons_succ, List.getElem_toArray, List.getElem_cons_succ, List.getElem_cons_zero]
    refine wpAnyH_ready (rs := [0]) (by kernel_rfl) (by simp) (AllReadyH.cons rfl (fun K hK => ?a5_0) AllReadyH.nil)
    case' a5_0 =>
      go_simp
      refine hK.out _ _ (hS) (fun hSn => ?_)
      clear hK K hS
      have hS := hSn
      clear hSn
      try simp only [Act.put, List.setIfInBounds_toArray, List.set_cons_zero, List.set_cons_succ, List.getElem_toArray, List.getElem_cons_succ, List.getElem_cons_zero]
      refine wpAnyH_ready (rs := [6]) (by kernel_rfl) (by simp) (AllReadyH.cons rfl (fun K hK => ?a6_6) AllReadyH.nil)
      case' a6_6 =>
        refine step_app_eq rfl _ _ _ rfl _ _ rfl rfl _ _ hr ?_
        refine hK.out _ _ (s1b) (fun hSn => ?_)
        clear hK K hS
        have hS := hSn
        clear hSn
        try simp only [Act.put, List.setIfInBounds_toArray, List.set_cons_zero, List.set_cons_succ, List.getElem_toArray, List.getElem_cons_succ, List.getElem_cons_zero]
        refine wpAnyH_ready (rs := [7]) (by kernel_rfl) (by simp) (AllReadyH.cons rfl (fun K hK => ?a7_7) AllReadyH.nil)
        case' a7_7 =>
          go_simp
          refine hK.out _ _ (s1c) (fun hSn => ?_)
          clear hK K hS
          have hS := hSn
          clear hSn
          try simp only [Act.put, List.setIfInBounds_toArray, List.set_cons_zero, List.set_cons_succ, List.getElem_toArray, List.getElem_cons_succ, List.getElem_cons_zero]
          refine wpAnyH_done (by kernel_rfl) ?_ _
  · obtain ⟨w5, hw5⟩ : ∃ w5, w5 = w'.setCell ⟨F, 0, none⟩ (.slice a' (m + 1) c') := ⟨_, rfl⟩
    rw [← hw5] at HFIN ⊢
    clear hw5 hr s1 s1a s1b s1c l0 l0a fz sc hS
    have D5 : Below w5.heap.size w5 w5.drew := (Below.refl _ _).drew
    have LF := hid (HFIN.out.2.2.stays D5)
    have BF := hid (HFIN.out.1.stays D5)
    have FF := hid (HFIN.out.2.1.trans (Fe.of_below D5 HFIN.out.1.le))
    have s2 : w5.drew.cell? ⟨b, o + 4, none⟩ = some (.slice none 0 0) ∧ w5.drew.cell? ⟨G, 0, none⟩ = some (.func (.func 42) #[] #[.pointer (some ⟨F, 0, none⟩), .pointer (some ⟨G, 0, none⟩)]) := ⟨LF.out.1 4 _ rfl, BF.out.fn.cell 0⟩
    have HE : Hid (∀ wz, Calls Tryz.prog 43 #[.slice none 0 0, .func (.func 42) #[] #[.pointer (some ⟨F, 0, none⟩), .pointer (some ⟨G, 0, none⟩)]] wz fun e w' => e = .returned (.tuple #[]) ∧ w' = wz) := fun wz => each_none wz _ _ _ _ _
    go_wp2
    refine wp_region_held_drew (S := fun wz => wz.cell? ⟨b, o + 4, none⟩ = some (.slice none 0 0) ∧ wz.cell? ⟨G, 0, none⟩ = some (.func (.func 42) #[] #[.pointer (some ⟨F, 0, none⟩), .pointer (some ⟨G, 0, none⟩)])) (by kernel_rfl) (s2) (fun hS => ?_)
    generalize w5.drew = wd at hS LF BF FF s2 ⊢
    refine wpAnyH_take (i := 0) (v := ?_) rfl (by kernel_rfl) (by kernel_rfl) (by kernel_rfl) (fun _ _ _ h => h) (Or.inl ⟨by rfl, ?_⟩) hS ?_
    rotate_left
    · intro wz hz; go_simp; try with_reducible rfl
    try simp only [Act.put, List.setIfInBounds_toArray, List.set_cons_zero, List.set_cons_succ, List.getElem_toArray, List.getElem_cons_succ, List.getElem_cons_zero]
    refine wpAnyH_take (i := 1) (v := ?_) rfl (by kernel_rfl) (by kernel_rfl) (by kernel_rfl) (fun _ _ _ h => h) (Or.inl ⟨by rfl, ?_⟩) hS ?_
    rotate_left
    · intro wz hz; go_simp; try with_reducible rfl
    try simp only [Act.put, List.setIfInBounds_toArray, List.set_cons_zero, List.set_cons_succ, List.getElem_toArray, List.getElem_cons_succ, List.getElem_cons_zero]
    refine wpAnyH_take (i := 2) (v := ?_) rfl (by kernel_rfl) (by kernel_rfl) (by kernel_rfl) (fun _ _ _ h => h) (Or.inl ⟨by rfl, ?_⟩) hS ?_
    rotate_left
    · intro wz hz; go_simp; try with_reducible rfl
    try simp only [Act.put, List.setIfInBounds_toArray, List.set_cons_zero, List.set_cons_succ, List.getElem_toArray, List.getElem_cons_succ, List.getElem_cons_zero]
    refine wpAnyH_take (i := 3) (v := ?_) rfl (by kernel_rfl) (by kernel_rfl) (by kernel_rfl) (fun _ _ _ h => h) (Or.inl ⟨by rfl, ?_⟩) hS ?_
    rotate_left
    · intro wz hz; obtain ⟨yy0, yy1⟩ := hz; go_simp; try with_reducible rfl
    try simp only [Act.put, List.setIfInBounds_toArray, List.set_cons_zero, List.set_cons_succ, List.getElem_toArray, List.getElem_cons_succ, List.getElem_cons_zero]
    refine wpAnyH_take (i := 4) (v := ?_) rfl (by kernel_rfl) (by kernel_rfl) (by kernel_rfl) (fun _ _ _ h => h) (Or.inl ⟨by rfl, ?_⟩) hS ?_
    rotate_left
    · intro wz hz; obtain ⟨yy0, yy1⟩ := hz; go_simp; try with_reducible rfl
    try simp only [Act.put, List.setIfInBounds_toArray, List.set_cons_zero, List.set_cons_succ, List.getElem_toArray, List.getElem_cons_succ, List.getElem_cons_zero]
    refine wpAnyH_ready (rs := [5]) (by kernel_rfl) (by simp) (AllReadyH.cons rfl (fun K hK => ?a9_5) AllReadyH.nil)
    case' a9_5 =>
      go_simp
      refine (HE.out _).mono ?_
      rintro e w9 ⟨rfl, hw9⟩
      rw [hw9]
      clear hw9 w9
      refine hK.out _ _ (hS) (fun hSn => ?_)
      clear hK K hS
      have hS := hSn
      clear hSn
      try simp only [Act.put, List.setIfInBounds_toArray, List.set_cons_zero, List.set_cons_succ, List.getElem_toArray, List.getElem_cons_succ, List.getElem_cons_zero]
      refine wpAnyH_done (by kernel_rfl) ?_ _
    all_goals (
      go_wp2
      first | go_end0 | refine bodyPost_end (results_none rfl _ _ _) rfl ?_ | refine bodyPost_ret (results_none rfl _ _ _) rfl ?_
      exact ⟨rfl, ⟨_, BF.out⟩, FF.out⟩)
  · obtain ⟨w5, hw5⟩ : ∃ w5, w5 = w'.setCell ⟨F, 0, none⟩ (.slice a' (m + 1) c') := ⟨_, rfl⟩
    rw [← hw5] at HFIN ⊢
    clear hw5 hr s1 s1a s1b s1c l0 l0a fz sc hS
    have D5 : Below w5.heap.size w5 w5.drew := (Below.refl _ _).drew
    have LF := hid (HFIN.out.2.2.stays D5)
    have BF := hid (HFIN.out.1.stays D5)
    have FF := hid (HFIN.out.2.1.trans (Fe.of_below D5 HFIN.out.1.le))
    have s2 : w5.drew.cell? ⟨b, o + 4, none⟩ = some (.slice none 0 0) ∧ w5.drew.cell? ⟨G, 0, none⟩ = some (.func (.func 42) #[] #[.pointer (some ⟨F, 0, none⟩), .pointer (some ⟨G, 0, none⟩)]) := ⟨LF.out.1 4 _ rfl, BF.out.fn.cell 0⟩
    have HE : Hid (∀ wz, Calls Tryz.prog 43 #[.slice none 0 0, .func (.func 42) #[] #[.pointer (some ⟨F, 0, none⟩), .pointer (some ⟨G, 0, none⟩)]] wz fun e w' => e = .returned (.tuple #[]) ∧ w' = wz) := fun wz => each_none wz _ _ _ _ _
    go_wp2
    refine wp_region_held_drew (S := fun wz => wz.cell? ⟨b, o + 4, none⟩ = some (.slice none 0 0) ∧ wz.cell? ⟨G, 0, none⟩ = some (.func (.func 42) #[] #[.pointer (some ⟨F, 0, none⟩), .pointer (some ⟨G, 0, none⟩)])) (by kernel_rfl) (s2) (fun hS => ?_)
    generalize w5.drew = wd at hS LF BF FF s2 ⊢
    refine wpAnyH_take (i := 0) (v := ?_) rfl (by kernel_rfl) (by kernel_rfl) (by kernel_rfl) (fun _ _ _ h => h) (Or.inl ⟨by rfl, ?_⟩) hS ?_
    rotate_left
    · intro wz hz; go_simp; try with_reducible rfl
    try simp only [Act.put, List.setIfInBounds_toArray, List.set_cons_zero, List.set_cons_succ, List.getElem_toArray, List.getElem_cons_succ, List.getElem_cons_zero]
    refine wpAnyH_take (i := 1) (v := ?_) rfl (by kernel_rfl) (by kernel_rfl) (by kernel_rfl) (fun _ _ _ h => h) (Or.inl ⟨by rfl, ?_⟩) hS ?_
    rotate_left
    · intro wz hz; go_simp; try with_reducible rfl
    try simp only [Act.put, List.setIfInBounds_toArray, List.set_cons_zero, List.set_cons_succ, List.getElem_toArray, List.getElem_cons_succ, List.getElem_cons_zero]
    refine wpAnyH_take (i := 2) (v := ?_) rfl (by kernel_rfl) (by kernel_rfl) (by kernel_rfl) (fun _ _ _ h => h) (Or.inl ⟨by rfl, ?_⟩) hS ?_
    rotate_left
    · intro wz hz; go_simp; try with_reducible rfl
    try simp only [Act.put, List.setIfInBounds_toArray, List.set_cons_zero, List.set_cons_succ, List.getElem_toArray, List.getElem_cons_succ, List.getElem_cons_zero]
    refine wpAnyH_take (i := 3) (v := ?_) rfl (by kernel_rfl) (by kernel_rfl) (by kernel_rfl) (fun _ _ _ h => h) (Or.inl ⟨by rfl, ?_⟩) hS ?_
    rotate_left
    · intro wz hz; obtain ⟨yy0, yy1⟩ := hz; go_simp; try with_reducible rfl
    try simp only [Act.put, List.setIfInBounds_toArray, List.set_cons_zero, List.set_cons_succ, List.getElem_toArray, List.getElem_cons_succ, List.getElem_cons_zero]
    refine wpAnyH_take (i := 4) (v := ?_) rfl (by kernel_rfl) (by kernel_rfl) (by kernel_rfl) (fun _ _ _ h => h) (Or.inl ⟨by rfl, ?_⟩) hS ?_
    rotate_left
    · intro wz hz; obtain ⟨yy0, yy1⟩ := hz; go_simp; try with_reducible rfl
    try simp only [Act.put, List.setIfInBounds_toArray, List.set_cons_zero, List.set_cons_succ, List.getElem_toArray, List.getElem_cons_succ, List.getElem_cons_zero]
    refine wpAnyH_ready (rs := [5]) (by kernel_rfl) (by simp) (AllReadyH.cons rfl (fun K hK => ?a10_5) AllReadyH.nil)
    case' a10_5 =>
      go_simp
      refine (HE.out _).mono ?_
      rintro e w9 ⟨rfl, hw9⟩
      rw [hw9]
      clear hw9 w9
      refine hK.out _ _ (hS) (fun hSn => ?_)
      clear hK K hS
      have hS := hSn
      clear hSn
      try simp only [Act.put, List.setIfInBounds_toArray, List.set_cons_zero, List.set_cons_succ, List.getElem_toArray, List.getElem_cons_succ, List.getElem_cons_zero]
      refine wpAnyH_done (by kernel_rfl) ?_ _
    all_goals (
      go_wp2
      first | go_end0 | refine bodyPost_end (results_none rfl _ _ _) rfl ?_ | refine bodyPost_ret (results_none rfl _ _ _) rfl ?_
      exact ⟨rfl, ⟨_, BF.out⟩, FF.out⟩)
set_option maxHeartbeats 4000000 in
set_option maxRecDepth 100000 in
theorem bind_int (w : World) (F G base m : Nat) (T : TypeId) (v : Value) (h : Bd w F G base T v m) (b o : Nat) (hl : Leaf5 w b o 3 (⟨#[]⟩ : ByteArray) 1) : Calls Tryz.prog 42 #[.pointer (some ⟨b, o, none⟩), .pointer (some ⟨F, 0, none⟩), .pointer (some ⟨G, 0, none⟩)] w fun e w' => e = .returned (.tuple #[]) ∧ (∃ v', Bd w' F G base T v' m) ∧ Fe F base w w' := by
  have d0 : w.cell? ⟨b, o, none⟩ = some (.int .i64 3) := hl.1 0 _ rfl
  have D5 : Below w.heap.size w w.drew := (Below.refl _ _).drew
  have BF := hid (h.stays D5)
  have FF := hid (Fe.of_below (F := F) D5 h.le)
  have s2 : w.drew.cell? ⟨b, o + 4, none⟩ = some (.slice none 0 0) ∧ w.drew.cell? ⟨G, 0, none⟩ = some (.func (.func 42) #[] #[.pointer (some ⟨F, 0, none⟩), .pointer (some ⟨G, 0, none⟩)]) := ⟨(hl.stays D5).1 4 _ rfl, BF.out.fn.cell 0⟩
  have HE : Hid (∀ wz, Calls Tryz.prog 43 #[.slice none 0 0, .func (.func 42) #[] #[.pointer (some ⟨F, 0, none⟩), .pointer (some ⟨G, 0, none⟩)]] wz fun e w' => e = .returned (.tuple #[]) ∧ w' = wz) := fun wz => each_none wz _ _ _ _ _
  clear h hl D5
  go_enter Tryz.func42, Tryz.ntmps42
  go_wp2
  refine wp_region_held_drew (S := fun wz => wz.cell? ⟨b, o + 4, none⟩ = some (.slice none 0 0) ∧ wz.cell? ⟨G, 0, none⟩ = some (.func (.func 42) #[] #[.pointer (some ⟨F, 0, none⟩), .pointer (some ⟨G, 0, none⟩)])) (by kernel_rfl) (s2) (fun hS => ?_)
  generalize w.drew = wd at hS BF FF s2 ⊢
  refine wpAnyH_take (i := 0) (v := ?_) rfl (by kernel_rfl) (by kernel_rfl) (by kernel_rfl) (fun _ _ _ h => h) (Or.inl ⟨by rfl, ?_⟩) hS ?_
  rotate_left
  · intro wz hz; go_simp; try with_reducible rfl
  try simp only [Act.put, List.setIfInBounds_toArray, List.set_cons_zero, List.set_cons_succ, List.getElem_toArray, List.getElem_cons_succ, List.getElem_cons_zero]
  refine wpAnyH_take (i := 1) (v := ?_) rfl (by kernel_rfl) (by kernel_rfl) (by kernel_rfl) (fun _ _ _ h => h) (Or.inl ⟨by rfl, ?_⟩) hS ?_
  rotate_left
  · intro wz hz; go_simp; try with_reducible rfl
  try simp only [Act.put, List.setIfInBounds_toArray, List.set_cons_zero, List.set_cons_succ, List.getElem_toArray, List.getElem_cons_succ, List.getElem_cons_zero]
  refine wpAnyH_take (i := 2) (v := ?_) rfl (by kernel_rfl) (by kernel_rfl) (by kernel_rfl) (fun _ _ _ h => h) (Or.inl ⟨by rfl, ?_⟩) hS ?_
  rotate_left
  · intro wz hz; go_simp; try with_reducible rfl
  try simp only [Act.put, List.setIfInBounds_toArray, List.set_cons_zero, List.set_cons_succ, List.getElem_toArray, List.getElem_cons_succ, List.getElem_cons_zero]
  refine wpAnyH_take (i := 3) (v := ?_) rfl (by kernel_rfl) (by kernel_rfl) (by kernel_rfl) (fun _ _ _ h => h) (Or.inl ⟨by rfl, ?_⟩) hS ?_
  rotate_left
  · intro wz hz; obtain ⟨yy0, yy1⟩ := hz; go_simp; try with_reducible rfl
  try simp only [Act.put, List.setIfInBounds_toArray, List.set_cons_zero, List.set_cons_succ, List.getElem_toArray, List.getElem_cons_succ, List.getElem_cons_zero]
  refine wpAnyH_take (i := 4) (v := ?_) rfl (by kernel_rfl) (by kernel_rfl) (by kernel_rfl) (fun _ _ _ h => h) (Or.inl ⟨by rfl, ?_⟩) hS ?_
  rotate_left
  · intro wz hz; obtain ⟨yy0, yy1⟩ := hz; go_simp; try with_reducible rfl
  try simp only [Act.put, List.setIfInBounds_toArray, List.set_cons_zero, List.set_cons_succ, List.getElem_toArray, List.getElem_cons_succ, List.getElem_cons_zero]
  refine wpAnyH_ready (rs := [5]) (by kernel_rfl) (by simp) (AllReadyH.cons rfl (fun K hK => ?a11_5) AllReadyH.nil)
  case' a11_5 =>
    go_simp
    refine (HE.out _).mono ?_
    rintro e w9 ⟨rfl, hw9⟩
    rw [hw9]
    clear hw9 w9
    refine hK.out _ _ (hS) (fun hSn => ?_)
    clear hK K hS
    have hS := hSn
    clear hSn
    try simp only [Act.put, List.setIfInBounds_toArray, List.set_cons_zero, List.set_cons_succ, List.getElem_toArray, List.getElem_cons_succ, List.getElem_cons_zero]
    refine wpAnyH_done (by kernel_rfl) ?_ _
  all_goals (
    go_wp2
    first | go_end0 | refine bodyPost_end (results_none rfl _ _ _) rfl ?_ | refine bodyPost_ret (results_none rfl _ _ _) rfl ?_
    exact ⟨rfl, ⟨_, BF.out⟩, FF.out⟩)
set_option maxHeartbeats 4000000 in
set_option maxRecDepth 100000 in
theorem bind_pair (w : World) (F G base m : Nat) (T : TypeId) (v : Value) (h : Bd w F G base T v 0) (P K : Nat) (k : Int) (s : ByteArray) (n : Int) (hl : Pair5 w P K k s n) (hP : P < F) (hK : K < F)
    (h2 : ∀ w1 v1, Bd w1 F G base T v1 1 → Leaf5 w1 K 5 k s n → Calls Tryz.prog 42 #[.pointer (some ⟨K, 5, none⟩), .pointer (some ⟨F, 0, none⟩), .pointer (some ⟨G, 0, none⟩)] w1 fun e w' => e = .returned (.tuple #[]) ∧ (∃ v', Bd w' F G base T v' m) ∧ Fe F base w1 w') :
    Calls Tryz.prog 42 #[.pointer (some ⟨P, 0, none⟩), .pointer (some ⟨F, 0, none⟩), .pointer (some ⟨G, 0, none⟩)] w fun e w' => e = .returned (.tuple #[]) ∧ (∃ v', Bd w' F G base T v' m) ∧ Fe F base w w' := by
  have hF : F ≤ base := by have := h.lo; have := h.hi; omega
  have d0 : w.cell? ⟨P, 0, none⟩ = some (.int .i64 7) := hl.p 0 _ rfl
  have D5 : Below w.heap.size w w.drew := (Below.refl _ _).drew
  have BF := h.stays D5
  have FF := Fe.of_below (F := F) D5 h.le
  have LF := hl.stays D5
  have s2 : w.drew.cell? ⟨P, 4, none⟩ = some (.slice (some ⟨K, 0, none⟩) 2 2) ∧ w.drew.cell? ⟨G, 0, none⟩ = some (.func (.func 42) #[] #[.pointer (some ⟨F, 0, none⟩), .pointer (some ⟨G, 0, none⟩)]) := ⟨LF.p 4 _ rfl, BF.fn.cell 0⟩
  have HE : Hid (Calls Tryz.prog 43 #[.slice (some ⟨K, 0, none⟩) 2 2, .func (.func 42) #[] #[.pointer (some ⟨F, 0, none⟩), .pointer (some ⟨G, 0, none⟩)]] w.drew fun e w' => e = .returned (.tuple #[]) ∧ (∃ v', Bd w' F G base T v' m) ∧ Fe F base w w') := by
    refine each_two w.drew _ _ _ enters_bd K (fun w1 => (∃ v', Bd w1 F G base T v' 1) ∧ Fe F base w w1) _ ?_ ?_
    · refine (show Calls Tryz.prog 42 #[.pointer (some ⟨K, 0, none⟩), .pointer (some ⟨F, 0, none⟩), .pointer (some ⟨G, 0, none⟩)] w.drew _ from ((bind_var w.drew F G base 0 T v BF (by omega) K 0 LF.a hK).mono ?_))
      rintro e w1 ⟨rfl, q1, q2⟩
      exact ⟨rfl, q1, FF.trans q2⟩
    · rintro w1 ⟨⟨v1, q1⟩, q2⟩
      refine (show Calls Tryz.prog 42 #[.pointer (some ⟨K, 5, none⟩), .pointer (some ⟨F, 0, none⟩), .pointer (some ⟨G, 0, none⟩)] w1 _ from ((h2 w1 v1 q1 (hl.b.fe q2 hF hK)).mono ?_))
      rintro e w3 ⟨rfl, q3, q4⟩
      exact ⟨rfl, q3, q2.trans q4⟩
  have hk : Hid (∀ wz : World, ((∃ v', Bd wz F G base T v' m) ∧ Fe F base w wz) → (wz.cell? ⟨P, 4, none⟩ = some (.slice (some ⟨K, 0, none⟩) 2 2) ∧ wz.cell? ⟨G, 0, none⟩ = some (.func (.func 42) #[] #[.pointer (some ⟨F, 0, none⟩), .pointer (some ⟨G, 0, none⟩)]))) := hid (by
    rintro wz ⟨⟨v', q1⟩, q2⟩
    exact ⟨q2.cells hF hP hl.p 4 _ rfl, q1.fn.cell 0⟩)
  clear h hl D5 BF FF LF h2
  go_enter Tryz.func42, Tryz.ntmps42
  go_wp2
  refine wp_region_held_drew (S := fun wz => wz.cell? ⟨P, 4, none⟩ = some (.slice (some ⟨K, 0, none⟩) 2 2) ∧ wz.cell? ⟨G, 0, none⟩ = some (.func (.func 42) #[] #[.pointer (some ⟨F, 0, none⟩), .pointer (some ⟨G, 0, none⟩)])) (by kernel_rfl) (s2) (fun hS => ?_)
  generalize w.drew = wd at hS HE hk s2 ⊢
  refine wpAnyH_take (i := 0) (v := ?_) rfl (by kernel_rfl) (by kernel_rfl) (by kernel_rfl) (fun _ _ _ h => h) (Or.inl ⟨by rfl, ?_⟩) hS ?_
  rotate_left
  · intro wz hz; go_simp; try with_reducible rfl
  try simp only [Act.put, List.setIfInBounds_toArray, List.set_cons_zero, List.set_cons_succ, List.getElem_toArray, List.getElem_cons_succ, List.getElem_cons_zero]
  refine wpAnyH_take (i := 1) (v := ?_) rfl (by kernel_rfl) (by kernel_rfl) (by kernel_rfl) (fun _ _ _ h => h) (Or.inl ⟨by rfl, ?_⟩) hS ?_
  rotate_left
  · intro wz hz; go_simp; try with_reducible rfl
  try simp only [Act.put, List.setIfInBounds_toArray, List.set_cons_zero, List.set_cons_succ, List.getElem_toArray, List.getElem_cons_succ, List.getElem_cons_zero]
  refine wpAnyH_take (i := 2) (v := ?_) rfl (by kernel_rfl) (by kernel_rfl) (by kernel_rfl) (fun _ _ _ h => h) (Or.inl ⟨by rfl, ?_⟩) hS ?_
  rotate_left
  · intro wz hz; go_simp; try with_reducible rfl
  try simp only [Act.put, List.setIfInBounds_toArray, List.set_cons_zero, List.set_cons_succ, List.getElem_toArray, List.getElem_cons_succ, List.getElem_cons_zero]
  refine wpAnyH_take (i := 3) (v := ?_) rfl (by kernel_rfl) (by kernel_rfl) (by kernel_rfl) (fun _ _ _ h => h) (Or.inl ⟨by rfl, ?_⟩) hS ?_
  rotate_left
  · intro wz hz; obtain ⟨yy0, yy1⟩ := hz; go_simp; try with_reducible rfl
  try simp only [Act.put, List.setIfInBounds_toArray, List.set_cons_zero, List.set_cons_succ, List.getElem_toArray, List.getElem_cons_succ, List.getElem_cons_zero]
  refine wpAnyH_take (i := 4) (v := ?_) rfl (by kernel_rfl) (by kernel_rfl) (by kernel_rfl) (fun _ _ _ h => h) (Or.inl ⟨by rfl, ?_⟩) hS ?_
  rotate_left
  · intro wz hz; obtain ⟨yy0, yy1⟩ := hz; go_simp; try with_reducible rfl
  try simp only [Act.put, List.setIfInBounds_toArray, List.set_cons_zero, List.set_cons_succ, List.getElem_toArray, List.getElem_cons_succ, List.getElem_cons_zero]
  refine wpAnyH_ready (rs := [5]) (by kernel_rfl) (by simp) (AllReadyH.cons rfl (fun K hK => ?a8_5) AllReadyH.nil)
  case' a8_5 =>
    go_simp
    refine HE.out.mono ?_
    rintro e w9 ⟨rfl, q9⟩
    have Q9 := hid q9
    clear q9
    refine hK.out _ _ ((hk.out _ Q9.out)) (fun hSn => ?_)
    clear hK K hS
    have hS := hSn
    clear hSn
    try simp only [Act.put, List.setIfInBounds_toArray, List.set_cons_zero, List.set_cons_succ, List.getElem_toArray, List.getElem_cons_succ, List.getElem_cons_zero]
    refine wpAnyH_done (by kernel_rfl) ?_ _
  all_goals (
    go_wp2
    first | go_end0 | refine bodyPost_end (results_none rfl _ _ _) rfl ?_ | refine bodyPost_ret (results_none rfl _ _ _) rfl ?_
    exact ⟨rfl, Q9.out⟩)
end Go.Proofs.YtjodgnkhociaaaaGreat
