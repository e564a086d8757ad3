/- The document's natural and Decimal. -/
import Derived.Laws.IdiomStrings
import Derived.Laws.BitsAllLaws
import Derived.Test.YtfeppchgmobfpaaGreatDoorTgR1
import Derived.Test.YtfeppchgmobfpaaGreatDoorTgW1
namespace Go.Proofs.YtfeppchgmobfpaaGreatDoor
open Go.RowKit
set_option linter.unusedVariables false
set_option linter.unusedSimpArgs false

theorem dec_snoc {u : Nat} (h : ¬ u < 10) : Lib.decDigits u = Lib.decDigits (u / 10) ++ [UInt8.ofNat (48 + u % 10)] := by rw [Lib.decDigits, dif_neg h]
theorem conv_one (w : World) (x : UInt8) (y : Int) (h : y = (x.toNat : Int)) : (convert 57 9 (.slice (some ⟨w.heap.size, 0, none⟩) 1 1)).run Tryz.prog (w.alloc (.cells #[.int .u8 y] 5)) = .ok (.string ⟨#[x]⟩) (w.alloc (.cells #[.int .u8 y] 5)) := by
  subst h
  refine run_convert_bytes_back _ _ _ 5 ⟨w.heap.size, 0, none⟩ 1 [x] Tryz.underlying57 Tryz.underlying5 Tryz.underlying9 (fun j hj => ?_)
  have : j = 0 := by simpa using hj
  subst this
  show World.cell? _ ⟨w.heap.size, 0, none⟩ = _
  rw [cell_at (heap_alloc_at _ _)]
  rfl
theorem conv_arr (w : World) (b : Nat) (x : UInt8) (y : Int) (h : y = (x.toNat : Int)) (hA : Arr w b 5 [.int .u8 y]) : (convert 57 9 (.slice (some ⟨b, 0, none⟩) 1 1)).run Tryz.prog w = .ok (.string ⟨#[x]⟩) w := by
  subst h
  refine run_convert_bytes_back _ _ _ 5 ⟨b, 0, none⟩ 1 [x] Tryz.underlying57 Tryz.underlying5 Tryz.underlying9 (fun j hj => ?_)
  have : j = 0 := by simpa using hj
  subst this
  exact hA.cell 0
def NatOf (u : Nat) : Prop := ∀ w : World, Calls Tryz.prog 106 #[.int .u64 (u : Int)] w fun e w' => e = .returned (.string ⟨(Lib.decDigits u).toArray⟩) ∧ Below w.heap.size w w'

set_option maxHeartbeats 1000000 in
set_option maxRecDepth 100000 in
theorem natural_small (u : Nat) (h : u < 10) : NatOf u := by
  intro w
  have HR : Hid (Lib.decDigits u = [UInt8.ofNat (48 + u)]) := Lib.decDigits_one h
  have hx : Hid ((48 + (u : Int)) = ((UInt8.ofNat (48 + u)).toNat : Int)) := by show _ = _; rw [UInt8.toNat_ofNat']; omega
  generalize UInt8.ofNat (48 + u) = x at HR hx
  have hlt : (u : Int) < 10 := by omega
  have hcv := fun w => conv_one w x _ hx.out
  go_enter Tryz.func106, Tryz.ntmps106
  go_wp2
  go_ret
  exact ⟨by rw [HR.out]; rfl, bl_alloc (Below.refl _ _) _⟩

set_option maxHeartbeats 1000000 in
set_option maxRecDepth 100000 in
theorem natural_big (u : Nat) (h : ¬ u < 10) (hu : u < 18446744073709551616) (ih : NatOf (u / 10)) : NatOf u := by
  intro w
  have HR : Hid (Lib.decDigits u = Lib.decDigits (u / 10) ++ [UInt8.ofNat (48 + u % 10)]) := dec_snoc h
  obtain ⟨y, hy⟩ : ∃ y : Int, y = 48 + (u : Int) % 10 := ⟨_, rfl⟩
  have hx : Hid (y = ((UInt8.ofNat (48 + u % 10)).toNat : Int)) := by show _ = _; rw [UInt8.toNat_ofNat']; omega
  have hy1 : IntKind.u64.wrap (48 + (u : Int).tmod 10) = y := by rw [IntKind.wrap_u64, show (u : Int).tmod 10 = ((u % 10 : Nat) : Int) from rfl]; omega
  have hy2 : IntKind.u8.wrap y = y := by rw [IntKind.wrap_u8']; omega
  clear hy
  generalize UInt8.ofNat (48 + u % 10) = x at HR hx
  have hlen : (Lib.decDigits (u / 10)).length ≤ 21 := by rw [decDigits_len]; have := nDigits_le (u / 10) (by omega); omega
  have HI : Hid (∀ w : World, Calls Tryz.prog 106 #[.int .u64 ((u / 10 : Nat) : Int)] w fun e w' => e = .returned (.string ⟨(Lib.decDigits (u / 10)).toArray⟩) ∧ Below w.heap.size w w') := ih
  clear ih
  generalize Lib.decDigits (u / 10) = d at HR hlen HI
  have hlt : ¬ (u : Int) < 10 := by omega
  have hq : IntKind.u64.wrap ((u : Int) / 10) = ((u / 10 : Nat) : Int) := by rw [IntKind.wrap_u64]; omega
  have hd2 : ¬ 9223372036854775807 < d.length + 1 := by omega
  clear hlen h hu
  go_enter Tryz.func106, Tryz.ntmps106
  go_wp2_with fail
  refine wp_region_held_drew (S := fun wz => Below w.heap.size w wz) (by kernel_rfl) ((Below.refl _ _).drew) (fun hS => ?_)
  generalize w.drew = wc0 at hS   ⊢
  refine wpAnyH_take (i := 0) (v := ?_) rfl (by kernel_rfl) (by kernel_rfl) (by kernel_rfl) (fun _ _ _ h => h) (Or.inl ⟨by rfl, ?_⟩) hS ?_
  rotate_left
  · intro wz hz; go_simp; try with_reducible rfl
  try simp only [Act.put, List.setIfInBounds_toArray, List.set_cons_zero, List.set_cons_succ, List.getElem_toArray, List.getElem_cons_succ, List.getElem_cons_zero]
  refine wpAnyH_take (i := 1) (v := ?_) rfl (by kernel_rfl) (by kernel_rfl) (by kernel_rfl) (fun _ _ _ h => h) (Or.inl ⟨by rfl, ?_⟩) hS ?_
  rotate_left
  · intro wz hz; go_simp; try with_reducible rfl
  try simp only [Act.put, List.setIfInBounds_toArray, List.set_cons_zero, List.set_cons_succ, List.getElem_toArray, List.getElem_cons_succ, List.getElem_cons_zero]
  refine wpAnyH_take (i := 3) (v := ?_) rfl (by kernel_rfl) (by kernel_rfl) (by kernel_rfl) (fun _ _ _ h => h) (Or.inl ⟨by rfl, ?_⟩) hS ?_
  rotate_left
  · intro wz hz; go_simp; try with_reducible rfl
  try simp only [Act.put, List.setIfInBounds_toArray, List.set_cons_zero, List.set_cons_succ, List.getElem_toArray, List.getElem_cons_succ, List.getElem_cons_zero]
  refine wpAnyH_take (i := 4) (v := ?_) rfl (by kernel_rfl) (by kernel_rfl) (by kernel_rfl) (fun _ _ _ h => h) (Or.inl ⟨by rfl, ?_⟩) hS ?_
  rotate_left
  · intro wz hz; go_simp; try with_reducible rfl
  try simp only [Act.put, List.setIfInBounds_toArray, List.set_cons_zero, List.set_cons_succ, List.getElem_toArray, List.getElem_cons_succ, List.getElem_cons_zero]
  refine wpAnyH_take (i := 5) (v := ?_) rfl (by kernel_rfl) (by kernel_rfl) (by kernel_rfl) (fun _ _ _ h => h) (Or.inl ⟨by rfl, ?_⟩) hS ?_
  rotate_left
  · intro wz hz; go_simp; try with_reducible rfl
  try simp only [Act.put, List.setIfInBounds_toArray, List.set_cons_zero, List.set_cons_succ, List.getElem_toArray, List.getElem_cons_succ, List.getElem_cons_zero]
  refine wpAnyH_take (i := 6) (v := ?_) rfl (by kernel_rfl) (by kernel_rfl) (by kernel_rfl) (fun _ _ _ h => h) (Or.inl ⟨by rfl, ?_⟩) hS ?_
  rotate_left
  · intro wz hz; go_simp; try with_reducible rfl
  try simp only [Act.put, List.setIfInBounds_toArray, List.set_cons_zero, List.set_cons_succ, List.getElem_toArray, List.getElem_cons_succ, List.getElem_cons_zero]
  refine wpAnyH_ready (rs := [2, 7]) (by kernel_rfl) (by simp) (AllReadyH.cons rfl (fun K hK => ?a1_2) (AllReadyH.cons rfl (fun K hK => ?a1_7) AllReadyH.nil))
  case' a1_2 =>
    go_simp
    refine (HI.out wc0).mono ?_
    rintro e wc1 ⟨rfl, hb⟩
    refine hK.out _ _ (bl_on hS hb) (fun hSn => ?_)
    clear hK K hS
    have hS := hSn
    clear hSn
    try simp only [Act.put, List.setIfInBounds_toArray, List.set_cons_zero, List.set_cons_succ, List.getElem_toArray, List.getElem_cons_succ, List.getElem_cons_zero]
    clear hb
    refine wpAnyH_ready (rs := [7]) (by kernel_rfl) (by simp) (AllReadyH.cons rfl (fun K hK => ?a2_7) AllReadyH.nil)
    case' a2_7 =>
      go_simp
      have XB : Hid (Arr (wc1.alloc (.cells #[.int .u8 y] 5)) wc1.heap.size 5 [.int .u8 y]) := ⟨heap_alloc_at _ _⟩
      have hbn : Below wc1.heap.size wc1 (wc1.alloc (.cells #[.int .u8 y] 5)) := bl_alloc (Below.refl _ _) _
      have hSn := bl_on hS hbn
      generalize hwn : wc1.alloc (.cells #[.int .u8 y] 5) = wc2 at XB hSn  ⊢
      have qXB : w.heap.size ≤ wc1.heap.size := hS.size
      generalize hpXB : wc1.heap.size = pXB at XB qXB  ⊢
      clear hbn hwn hpXB
      refine hK.out _ _ (hSn) (fun hSn => ?_)
      clear hK K hS
      have hS := hSn
      clear hSn
      try simp only [Act.put, List.setIfInBounds_toArray, List.set_cons_zero, List.set_cons_succ, List.getElem_toArray, List.getElem_cons_succ, List.getElem_cons_zero]
      refine wpAnyH_ready (rs := [8]) (by kernel_rfl) (by simp) (AllReadyH.cons rfl (fun K hK => ?a3_8) AllReadyH.nil)
      case' a3_8 =>
        go_simp
        have hcv := conv_arr wc2 pXB x _ hx.out XB.out
        go_simp
        clear hcv
        refine hK.out _ _ (hS) (fun hSn => ?_)
        clear hK K hS
        have hS := hSn
        clear hSn
        try simp only [Act.put, List.setIfInBounds_toArray, List.set_cons_zero, List.set_cons_succ, List.getElem_toArray, List.getElem_cons_succ, List.getElem_cons_zero]
        refine wpAnyH_take (i := 9) (v := ?_) rfl (by kernel_rfl) (by kernel_rfl) (by kernel_rfl) (fun _ _ _ h => h) (Or.inl ⟨by rfl, ?_⟩) hS ?_
        rotate_left
        · intro wz hz; go_simp; try with_reducible rfl
        try simp only [Act.put, List.setIfInBounds_toArray, List.set_cons_zero, List.set_cons_succ, List.getElem_toArray, List.getElem_cons_succ, List.getElem_cons_zero]
        refine wpAnyH_take (i := 10) (v := ?_) rfl (by kernel_rfl) (by kernel_rfl) (by kernel_rfl) (fun _ _ _ h => h) (Or.inl ⟨by rfl, ?_⟩) hS ?_
        rotate_left
        · intro wz hz; go_simp; try with_reducible rfl
        try simp only [Act.put, List.setIfInBounds_toArray, List.set_cons_zero, List.set_cons_succ, List.getElem_toArray, List.getElem_cons_succ, List.getElem_cons_zero]
        refine wpAnyH_done (by kernel_rfl) ?_ _
  case' a1_7 =>
    go_simp
    have XB : Hid (Arr (wc0.alloc (.cells #[.int .u8 y] 5)) wc0.heap.size 5 [.int .u8 y]) := ⟨heap_alloc_at _ _⟩
    have hbn : Below wc0.heap.size wc0 (wc0.alloc (.cells #[.int .u8 y] 5)) := bl_alloc (Below.refl _ _) _
    have hSn := bl_on hS hbn
    generalize hwn : wc0.alloc (.cells #[.int .u8 y] 5) = wc1 at XB hSn  ⊢
    have qXB : w.heap.size ≤ wc0.heap.size := hS.size
    generalize hpXB : wc0.heap.size = pXB at XB qXB  ⊢
    clear hbn hwn hpXB
    refine hK.out _ _ (hSn) (fun hSn => ?_)
    clear hK K hS
    have hS := hSn
    clear hSn
    try simp only [Act.put, List.setIfInBounds_toArray, List.set_cons_zero, List.set_cons_succ, List.getElem_toArray, List.getElem_cons_succ, List.getElem_cons_zero]
    refine wpAnyH_ready (rs := [2, 8]) (by kernel_rfl) (by simp) (AllReadyH.cons rfl (fun K hK => ?a4_2) (AllReadyH.cons rfl (fun K hK => ?a4_8) AllReadyH.nil))
    case' a4_2 =>
      go_simp
      refine (HI.out wc1).mono ?_
      rintro e wc2 ⟨rfl, hb⟩
      have XB := hid (XB.out.stays hb)
      refine hK.out _ _ (bl_on hS hb) (fun hSn => ?_)
      clear hK K hS
      have hS := hSn
      clear hSn
      try simp only [Act.put, List.setIfInBounds_toArray, List.set_cons_zero, List.set_cons_succ, List.getElem_toArray, List.getElem_cons_succ, List.getElem_cons_zero]
      clear hb
      refine wpAnyH_ready (rs := [8]) (by kernel_rfl) (by simp) (AllReadyH.cons rfl (fun K hK => ?a5_8) AllReadyH.nil)
      case' a5_8 =>
        go_simp
        have hcv := conv_arr wc2 pXB x _ hx.out XB.out
        go_simp
        clear hcv
        refine hK.out _ _ (hS) (fun hSn => ?_)
        clear hK K hS
        have hS := hSn
        clear hSn
        try simp only [Act.put, List.setIfInBounds_toArray, List.set_cons_zero, List.set_cons_succ, List.getElem_toArray, List.getElem_cons_succ, List.getElem_cons_zero]
        refine wpAnyH_take (i := 9) (v := ?_) rfl (by kernel_rfl) (by kernel_rfl) (by kernel_rfl) (fun _ _ _ h => h) (Or.inl ⟨by rfl, ?_⟩) hS ?_
        rotate_left
        · intro wz hz; go_simp; try with_reducible rfl
        try simp only [Act.put, List.setIfInBounds_toArray, List.set_cons_zero, List.set_cons_succ, List.getElem_toArray, List.getElem_cons_succ, List.getElem_cons_zero]
        refine wpAnyH_take (i := 10) (v := ?_) rfl (by kernel_rfl) (by kernel_rfl) (by kernel_rfl) (fun _ _ _ h => h) (Or.inl ⟨by rfl, ?_⟩) hS ?_
        rotate_left
        · intro wz hz; go_simp; try with_reducible rfl
        try simp only [Act.put, List.setIfInBounds_toArray, List.set_cons_zero, List.set_cons_succ, List.getElem_toArray, List.getElem_cons_succ, List.getElem_cons_zero]
        refine wpAnyH_done (by kernel_rfl) ?_ _
    case' a4_8 =>
      go_simp
      have hcv := conv_arr wc1 pXB x _ hx.out XB.out
      go_simp
      clear hcv
      refine hK.out _ _ (hS) (fun hSn => ?_)
      clear hK K hS
      have hS := hSn
      clear hSn
      try simp only [Act.put, List.setIfInBounds_toArray, List.set_cons_zero, List.set_cons_succ, List.getElem_toArray, List.getElem_cons_succ, List.getElem_cons_zero]
      refine wpAnyH_ready (rs := [2]) (by kernel_rfl) (by simp) (AllReadyH.cons rfl (fun K hK => ?a6_2) AllReadyH.nil)
      case' a6_2 =>
        go_simp
        refine (HI.out wc1).mono ?_
        rintro e wc2 ⟨rfl, hb⟩
        have XB := hid (XB.out.stays hb)
        refine hK.out _ _ (bl_on hS hb) (fun hSn => ?_)
        clear hK K hS
        have hS := hSn
        clear hSn
        try simp only [Act.put, List.setIfInBounds_toArray, List.set_cons_zero, List.set_cons_succ, List.getElem_toArray, List.getElem_cons_succ, List.getElem_cons_zero]
        clear hb
        refine wpAnyH_take (i := 9) (v := ?_) rfl (by kernel_rfl) (by kernel_rfl) (by kernel_rfl) (fun _ _ _ h => h) (Or.inl ⟨by rfl, ?_⟩) hS ?_
        rotate_left
        · intro wz hz; go_simp; try with_reducible rfl
        try simp only [Act.put, List.setIfInBounds_toArray, List.set_cons_zero, List.set_cons_succ, List.getElem_toArray, List.getElem_cons_succ, List.getElem_cons_zero]
        refine wpAnyH_take (i := 10) (v := ?_) rfl (by kernel_rfl) (by kernel_rfl) (by kernel_rfl) (fun _ _ _ h => h) (Or.inl ⟨by rfl, ?_⟩) hS ?_
        rotate_left
        · intro wz hz; go_simp; try with_reducible rfl
        try simp only [Act.put, List.setIfInBounds_toArray, List.set_cons_zero, List.set_cons_succ, List.getElem_toArray, List.getElem_cons_succ, List.getElem_cons_zero]
        refine wpAnyH_done (by kernel_rfl) ?_ _
  all_goals (
    go_wp2
    go_ret
    exact ⟨by rw [HR.out, ← ByteArray.mk_append_mk]; rfl, hS⟩)
theorem natural_any (u : Nat) : u < 18446744073709551616 → NatOf u := by
  induction u using Nat.strongRecOn with
  | _ u ih =>
    intro hu
    by_cases h : u < 10
    · exact natural_small u h
    · exact natural_big u h hu (ih (u / 10) (by omega) (by omega))

set_option maxHeartbeats 1000000 in
set_option maxRecDepth 100000 in
theorem Decimal_any (w : World) (n : Int) (hn : R64 n) : Calls Tryz.prog 69 #[.int .i64 n] w fun e w' => e = .returned (.string ⟨(Lib.itoa n).toArray⟩) ∧ Below w.heap.size w w' := by
  obtain ⟨h1, h2⟩ := hn
  by_cases h : n < 0
  · have HR : Hid (Lib.itoa n = 45 :: Lib.decDigits n.natAbs) := by show _ = _; unfold Lib.itoa; rw [if_pos h]
    have hw1 : IntKind.i64.wrap (n + 1) = n + 1 := by rw [IntKind.wrap_i64]; omega
    have hw2 : IntKind.i64.wrap (-(n + 1)) = -(n + 1) := by rw [IntKind.wrap_i64]; omega
    have hw3 : IntKind.u64.wrap (-(n + 1)) = -(n + 1) := by rw [IntKind.wrap_u64]; omega
    have hw4 : IntKind.u64.wrap (-(n + 1) + 1) = ((n.natAbs : Nat) : Int) := by rw [IntKind.wrap_u64]; omega
    have HN := hid (natural_any n.natAbs (by omega) w)
    have hlen : ¬ 9223372036854775807 < 1 + (Lib.decDigits n.natAbs).length := by rw [decDigits_len]; have := nDigits_le n.natAbs (by omega); omega
    have hgt : n + 1 > n := by omega
    generalize Lib.decDigits n.natAbs = d at HR HN hlen
    generalize ((n.natAbs : Nat) : Int) = q at hw4 HN
    clear h1 h2
    go_enter Tryz.func69, Tryz.ntmps69
    go_wp2_with (go_at_call 106; refine (HN.out).mono ?_; rintro e w3 ⟨rfl, b3⟩; clear HN)
    go_ret
    exact ⟨by rw [HR.out, show (45 :: d) = [45] ++ d from rfl, ← ByteArray.mk_append_mk]; rfl, b3⟩
  · have HR : Hid (Lib.itoa n = Lib.decDigits n.toNat) := by show _ = _; unfold Lib.itoa; rw [if_neg h]
    have hw3 : IntKind.u64.wrap n = ((n.toNat : Nat) : Int) := by rw [IntKind.wrap_u64]; omega
    have HN := hid (natural_any n.toNat (by omega) w)
    generalize Lib.decDigits n.toNat = d at HR HN
    generalize ((n.toNat : Nat) : Int) = q at hw3 HN
    clear h1 h2
    go_enter Tryz.func69, Tryz.ntmps69
    go_wp2_with (go_at_call 106; refine (HN.out).mono ?_; rintro e w3 ⟨rfl, b3⟩; clear HN)
    go_ret
    exact ⟨by rw [HR.out]; rfl, b3⟩

set_option maxHeartbeats 1000000 in
set_option maxRecDepth 100000 in
theorem wide_any (w : World) (k : Int) : Calls Tryz.prog 107 #[.int .i64 k] w fun e w' => e = .returned (.bool (decide (k = 4 ∨ k = 9 ∨ k = 10 ∨ k = 11))) ∧ w' = w := by
  have HB := hid (rbinds_any w k)
  by_cases h4 : k = 4
  · have g : (k == 4) = true := by simp [h4]
    have HR : Hid (decide (k = 4 ∨ k = 9 ∨ k = 10 ∨ k = 11) = true) := by show _ = _; simp [h4]
    generalize decide (k = 4 ∨ k = 9 ∨ k = 10 ∨ k = 11) = res at HR ⊢
    clear h4
    go_enter Tryz.func107, Tryz.ntmps107
    go_wp2
    go_ret
    exact ⟨ret_bool HR.out.symm, rfl⟩
  · have g : (k == 4) = false := by simp [h4]
    have HR : Hid (decide (k = 4 ∨ k = 9 ∨ k = 10 ∨ k = 11) = bindsK k) := by show _ = _; unfold bindsK; simp [h4, Bool.or_assoc]
    generalize decide (k = 4 ∨ k = 9 ∨ k = 10 ∨ k = 11) = res at HR ⊢
    generalize bindsK k = r2 at HR HB
    clear h4
    go_enter Tryz.func107, Tryz.ntmps107
    go_wp2_with (go_at_call 50; refine (HB.out).mono ?_; rintro e w3 ⟨rfl, rfl⟩; clear HB)
    go_ret
    exact ⟨ret_bool HR.out.symm, rfl⟩
end Go.Proofs.YtfeppchgmobfpaaGreatDoor
