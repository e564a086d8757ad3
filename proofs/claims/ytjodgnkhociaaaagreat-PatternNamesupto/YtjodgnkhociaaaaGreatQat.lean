/- pattern.constructorsOf of the two example patterns. -/
import Derived.OrdersHeld
import Derived.Test.YtjodgnkhociaaaaGreatQas
namespace Go.Proofs.YtjodgnkhociaaaaGreat
open Go.RowKit
set_option linter.unusedVariables false
set_option linter.unusedSimpArgs false

set_option maxHeartbeats 4000000 in
set_option maxRecDepth 100000 in
theorem consOf_one (w : World) (P K E : Nat) (hl : Pair5 w P K 3 (⟨#[]⟩ : ByteArray) 1) : Calls Tryz.prog 20 #[.pointer (some ⟨P, 0, none⟩), .pointer (some ⟨E, 0, none⟩)] w fun e w' => (∃ C, e = .returned (.tuple #[.map (some C), .int .i64 0])) ∧ Below w.heap.size w w' := by
  have hPl := hl.pl
  have hKl := hl.a.2
  have b0 := bl_alloc (Below.refl w.heap.size w) (.cells #[.pointer (some ⟨E, 0, none⟩)] 85)
  have l1 := hl.stays b0
  have d0 : (w.alloc (.cells #[.pointer (some ⟨E, 0, none⟩)] 85)).cell? ⟨P, 0, none⟩ = _ := l1.p 0 _ rfl
  have d1 : (w.alloc (.cells #[.pointer (some ⟨E, 0, none⟩)] 85)).cell? ⟨P, 1, none⟩ = _ := l1.p 1 _ rfl
  have d2 : (w.alloc (.cells #[.pointer (some ⟨E, 0, none⟩)] 85)).cell? ⟨P, 2, none⟩ = _ := l1.p 2 _ rfl
  have d3 : (w.alloc (.cells #[.pointer (some ⟨E, 0, none⟩)] 85)).cell? ⟨P, 3, none⟩ = _ := l1.p 3 _ rfl
  have d4 : (w.alloc (.cells #[.pointer (some ⟨E, 0, none⟩)] 85)).cell? ⟨P, 4, none⟩ = _ := l1.p 4 _ rfl
  have HR := hid (RightPat_pair _ K 3 (⟨#[]⟩ : ByteArray) 1 l1.a l1.b (fun w' h => right_int w' K 5 h))
  have HL := hid hl
  have B0 := hid b0
  clear hl l1 b0
  go_enter Tryz.func20, Tryz.ntmps20
  have hmk : ∀ w, (Instr.makeMap 82 none).run Tryz.prog w = .ok (.map (some w.heap.size)) (w.alloc (.map #[] 0)) := fun w => by kernel_rfl
  go_wp2_with (first
    | (go_at_call 25
       refine HR.out.mono ?_
       rintro e w1 ⟨rfl, q1⟩
       have B1 := hid (bl_tr B0.out q1)
       have HQ : Hid (Calls Tryz.prog 26 #[.pointer (some ⟨P, 0, none⟩), .func (.func 27) #[] #[.pointer (some ⟨w1.heap.size + 1 + 1, 0, none⟩), .pointer (some ⟨w1.heap.size + 1, 0, none⟩), .pointer (some ⟨w.heap.size, 0, none⟩), .pointer (some ⟨w1.heap.size + 1 + 1 + 1, 0, none⟩)]] ((((w1.alloc (.map #[] 0)).alloc (.cells #[.map (some w1.heap.size)] 82)).alloc (.cells #[.int .i64 0] INTT)).alloc (.cells #[.int .i64 0] INTT)) fun e w' => e = .returned (.tuple #[]) ∧ Arr w' (w1.heap.size + 1 + 1) INTT [.int .i64 1] ∧ Arr w' (w1.heap.size + 1 + 1 + 1) INTT [.int .i64 0] ∧ Arr w' (w1.heap.size + 1) 82 [.map (some w1.heap.size)] ∧ Below w.heap.size w w') := hid (by
         have z1 : (w1.alloc (.map #[] 0)).heap.size = w1.heap.size + 1 := size_alloc _ _
         have x1 := bl_alloc (Below.refl w1.heap.size w1) (.map #[] 0)
         generalize w1.alloc (.map #[] 0) = w2 at z1 x1 ⊢
         rw [← z1]
         have z2 : (w2.alloc (.cells #[.map (some w1.heap.size)] 82)).heap.size = w2.heap.size + 1 := size_alloc _ _
         have x2 := bl_alloc (Below.refl w2.heap.size w2) (.cells #[.map (some w1.heap.size)] 82)
         have y2 : Arr (w2.alloc (.cells #[.map (some w1.heap.size)] 82)) w2.heap.size 82 [.map (some w1.heap.size)] := ⟨heap_alloc_at _ _⟩
         generalize w2.alloc (.cells #[.map (some w1.heap.size)] 82) = w3 at z2 x2 y2 ⊢
         rw [← z2]
         have z3 : (w3.alloc (.cells #[.int .i64 0] INTT)).heap.size = w3.heap.size + 1 := size_alloc _ _
         have x3 := bl_alloc (Below.refl w3.heap.size w3) (.cells #[.int .i64 0] INTT)
         have y3 : Arr (w3.alloc (.cells #[.int .i64 0] INTT)) w3.heap.size INTT [.int .i64 0] := ⟨heap_alloc_at _ _⟩
         generalize w3.alloc (.cells #[.int .i64 0] INTT) = w4 at z3 x3 y3 ⊢
         rw [← z3]
         have x4 := bl_alloc (Below.refl w4.heap.size w4) (.cells #[.int .i64 0] INTT)
         have y4 : Arr (w4.alloc (.cells #[.int .i64 0] INTT)) w4.heap.size INTT [.int .i64 0] := ⟨heap_alloc_at _ _⟩
         generalize w4.alloc (.cells #[.int .i64 0] INTT) = w5 at x4 y4 ⊢
         have b15 := bl_tr x1 (bl_tr x2 (bl_tr x3 x4))
         have b05 := bl_tr B1.out b15
         have h1s := B1.out.size
         refine (ea_pair w5 w3.heap.size w2.heap.size w.heap.size w4.heap.size P K 1 3 (⟨#[]⟩ : ByteArray) 1 (y3.stays x4) (HL.out.stays b05) (by omega) (by omega) (fun w6 h6 h7 => (ea_int w6 _ _ _ _ K 5 h7).mono (by rintro e w8 ⟨rfl, rfl⟩; exact ⟨rfl, h6, Xf.of_below (Below.refl _ _)⟩))).mono ?_
         rintro e w7 ⟨rfl, q1, q2⟩
         have hs5 := y4.lt
         exact ⟨rfl, q1, q2.arr y4 (by omega), q2.arr ((y2.stays x3).stays x4) (by omega), b05.trans (q2.below (by omega) (by omega))⟩)
       clear q1)
    | (go_at_call 26
       refine HQ.out.mono ?_
       rintro e w5 ⟨rfl, q1, q2, q3, q4⟩
       have D5 : Below w5.heap.size w5 w5.drew := (Below.refl _ _).drew
       have AB := hid (q1.stays D5)
       have AZ := hid (q2.stays D5)
       have AM := hid (q3.stays D5)
       have B5 := hid (bl_tr q4 D5)
       clear q1 q2 q3 q4 D5))
  obtain ⟨B, hB⟩ : ∃ B, w1.heap.size + 1 + 1 = B := ⟨_, rfl⟩
  obtain ⟨Z, hZ⟩ : ∃ B, w1.heap.size + 1 + 1 + 1 = B := ⟨_, rfl⟩
  obtain ⟨Mb, hMb⟩ : ∃ B, w1.heap.size + 1 = B := ⟨_, rfl⟩
  have hk : Hid (∀ wz : World, Below w5.drew.heap.size w5.drew wz → (wz.cell? ⟨P, 0, none⟩ = some (.int .i64 7) ∧ wz.cell? ⟨P, 1, none⟩ = some (.string ⟨#[]⟩) ∧ wz.cell? ⟨P, 2, none⟩ = some (.slice none 0 0) ∧ wz.cell? ⟨P, 3, none⟩ = some (.int .i64 0) ∧ wz.cell? ⟨P, 4, none⟩ = some (.slice (some ⟨K, 0, none⟩) 2 2) ∧ wz.cell? ⟨w1.heap.size + 1 + 1, 0, none⟩ = some (.int .i64 1))) := hid fun wz hz => by
    have l := HL.out.stays (bl_tr B5.out hz)
    exact ⟨l.p 0 _ rfl, l.p 1 _ rfl, l.p 2 _ rfl, l.p 3 _ rfl, l.p 4 _ rfl, (AB.out.stays hz).cell 0⟩
  have s6 : w5.drew.cell? ⟨P, 0, none⟩ = some (.int .i64 7) ∧ w5.drew.cell? ⟨P, 1, none⟩ = some (.string ⟨#[]⟩) ∧ w5.drew.cell? ⟨P, 2, none⟩ = some (.slice none 0 0) ∧ w5.drew.cell? ⟨P, 3, none⟩ = some (.int .i64 0) ∧ w5.drew.cell? ⟨P, 4, none⟩ = some (.slice (some ⟨K, 0, none⟩) 2 2) ∧ w5.drew.cell? ⟨w1.heap.size + 1 + 1, 0, none⟩ = some (.int .i64 1) := hk.out _ (Below.refl _ _)
  have HBI : Hid (∀ wz : World, Below w5.drew.heap.size w5.drew wz → Calls Tryz.prog 29 #[.agg #[.int .i64 7, .string ⟨#[]⟩, .slice none 0 0, .int .i64 0, .slice (some ⟨K, 0, none⟩) 2 2]] wz fun e w' => (∃ p c, e = .returned (.slice p 1 c)) ∧ Below wz.heap.size wz w') := hid fun wz hz => by
    have l := HL.out.stays (bl_tr B5.out hz)
    exact Binders_pair wz K 1 3 (⟨#[]⟩ : ByteArray) 1 (by decide) (by decide) l.a l.b (fun w6 F G base T v6 h6 h7 hF => bind_int w6 F G base 1 T v6 h6 K 5 h7)
  clear d0 d1 d2 d3 d4 hB hZ hMb HR HQ
  refine wp_region_held_drew (S := fun wz => wz.cell? ⟨P, 0, none⟩ = some (.int .i64 7) ∧ wz.cell? ⟨P, 1, none⟩ = some (.string ⟨#[]⟩) ∧ wz.cell? ⟨P, 2, none⟩ = some (.slice none 0 0) ∧ wz.cell? ⟨P, 3, none⟩ = some (.int .i64 0) ∧ wz.cell? ⟨P, 4, none⟩ = some (.slice (some ⟨K, 0, none⟩) 2 2) ∧ wz.cell? ⟨w1.heap.size + 1 + 1, 0, none⟩ = some (.int .i64 1)) (by kernel_rfl) (s6) (fun hS => ?_)
  generalize w5.drew = wd at hS hk s6 HBI AB AZ AM B5 ⊢
  refine wpAnyH_take (i := 0) (v := ?_) rfl (by kernel_rfl) (by kernel_rfl) (by kernel_rfl) (fun _ _ _ h => h) (Or.inl ⟨by rfl, ?_⟩) hS ?_
  rotate_left
  · intro wz hz; go_simp; try with_reducible rfl
  try simp only [Act.put, List.setIfInBounds_toArray, List.set_cons_zero, List.set_cons_succ, List.getElem_toArray, List.getElem_cons_succ, List.getElem_cons_zero]
  refine wpAnyH_take (i := 1) (v := ?_) rfl (by kernel_rfl) (by kernel_rfl) (by kernel_rfl) (fun _ _ _ h => h) (Or.inl ⟨by rfl, ?_⟩) hS ?_
  rotate_left
  · intro wz hz; go_simp; try with_reducible rfl
  try simp only [Act.put, List.setIfInBounds_toArray, List.set_cons_zero, List.set_cons_succ, List.getElem_toArray, List.getElem_cons_succ, List.getElem_cons_zero]
  refine wpAnyH_take (i := 2) (v := ?_) rfl (by kernel_rfl) (by kernel_rfl) (by kernel_rfl) (fun _ _ _ h => h) (Or.inl ⟨by rfl, ?_⟩) hS ?_
  rotate_left
  · intro wz hz; obtain ⟨yy0, yy1, yy2, yy3, yy4, yy5⟩ := hz; go_simp; try with_reducible rfl
  try simp only [Act.put, List.setIfInBounds_toArray, List.set_cons_zero, List.set_cons_succ, List.getElem_toArray, List.getElem_cons_succ, List.getElem_cons_zero]
  refine wpAnyH_take (i := 5) (v := ?_) rfl (by kernel_rfl) (by kernel_rfl) (by kernel_rfl) (fun _ _ _ h => h) (Or.inl ⟨by rfl, ?_⟩) hS ?_
  rotate_left
  · intro wz hz; obtain ⟨yy0, yy1, yy2, yy3, yy4, yy5⟩ := hz; go_simp; try with_reducible rfl
  try simp only [Act.put, List.setIfInBounds_toArray, List.set_cons_zero, List.set_cons_succ, List.getElem_toArray, List.getElem_cons_succ, List.getElem_cons_zero]
  refine wpAnyH_ready (rs := [3]) (by kernel_rfl) (by simp) (AllReadyH.cons rfl (fun K hK => ?a1_3) AllReadyH.nil)
  case' a1_3 =>
    go_simp
    refine (HBI.out _ (Below.refl _ _)).mono ?_
    rintro e w9 ⟨⟨p9, c9, rfl⟩, b9⟩
    have B9 := hid b9
    clear b9
    refine hK.out _ _ ((hk.out _ B9.out)) (fun hSn => ?_)
    clear hK K hS
    have hS := hSn
    clear hSn
    try simp only [Act.put, List.setIfInBounds_toArray, List.set_cons_zero, List.set_cons_succ, List.getElem_toArray, List.getElem_cons_succ, List.getElem_cons_zero]
    refine wpAnyH_take (i := 4) (v := ?_) rfl (by kernel_rfl) (by kernel_rfl) (by kernel_rfl) (fun _ _ _ h => h) (Or.inl ⟨by rfl, ?_⟩) hS ?_
    rotate_left
    · intro wz hz; go_simp; try with_reducible rfl
    try simp only [Act.put, List.setIfInBounds_toArray, List.set_cons_zero, List.set_cons_succ, List.getElem_toArray, List.getElem_cons_succ, List.getElem_cons_zero]
    refine wpAnyH_take (i := 6) (v := ?_) rfl (by kernel_rfl) (by kernel_rfl) (by kernel_rfl) (fun _ _ _ h => h) (Or.inl ⟨by rfl, ?_⟩) hS ?_
    rotate_left
    · intro wz hz; go_simp; try with_reducible rfl
    try simp only [Act.put, List.setIfInBounds_toArray, List.set_cons_zero, List.set_cons_succ, List.getElem_toArray, List.getElem_cons_succ, List.getElem_cons_zero]
    refine wpAnyH_take (i := 7) (v := ?_) rfl (by kernel_rfl) (by kernel_rfl) (by kernel_rfl) (fun _ _ _ h => h) (Or.inl ⟨by rfl, ?_⟩) hS ?_
    rotate_left
    · intro wz hz; go_simp; try with_reducible rfl
    try simp only [Act.put, List.setIfInBounds_toArray, List.set_cons_zero, List.set_cons_succ, List.getElem_toArray, List.getElem_cons_succ, List.getElem_cons_zero]
    refine wpAnyH_done (by kernel_rfl) ?_ _
  all_goals (
    have az := (AZ.out.stays B9.out).cell
    have am := (AM.out.stays B9.out).cell
    go_wp2
    go_ret2
    exact ⟨⟨_, rfl⟩, bl_tr B5.out B9.out⟩)

set_option maxHeartbeats 4000000 in
set_option maxRecDepth 100000 in
theorem consOf_two (w : World) (P K E : Nat) (hl : Pair5 w P K 2 bx 0) : Calls Tryz.prog 20 #[.pointer (some ⟨P, 0, none⟩), .pointer (some ⟨E, 0, none⟩)] w fun e w' => e = .returned (.tuple #[.map none, .int .i64 20]) ∧ Below w.heap.size w w' := by
  have hPl := hl.pl
  have hKl := hl.a.2
  have b0 := bl_alloc (Below.refl w.heap.size w) (.cells #[.pointer (some ⟨E, 0, none⟩)] 85)
  have l1 := hl.stays b0
  have d0 : (w.alloc (.cells #[.pointer (some ⟨E, 0, none⟩)] 85)).cell? ⟨P, 0, none⟩ = _ := l1.p 0 _ rfl
  have d1 : (w.alloc (.cells #[.pointer (some ⟨E, 0, none⟩)] 85)).cell? ⟨P, 1, none⟩ = _ := l1.p 1 _ rfl
  have d2 : (w.alloc (.cells #[.pointer (some ⟨E, 0, none⟩)] 85)).cell? ⟨P, 2, none⟩ = _ := l1.p 2 _ rfl
  have d3 : (w.alloc (.cells #[.pointer (some ⟨E, 0, none⟩)] 85)).cell? ⟨P, 3, none⟩ = _ := l1.p 3 _ rfl
  have d4 : (w.alloc (.cells #[.pointer (some ⟨E, 0, none⟩)] 85)).cell? ⟨P, 4, none⟩ = _ := l1.p 4 _ rfl
  have HR := hid (RightPat_pair _ K 2 bx 0 l1.a l1.b (fun w' h => right_var w' K 5 h))
  have HL := hid hl
  have B0 := hid b0
  clear hl l1 b0
  go_enter Tryz.func20, Tryz.ntmps20
  have hmk : ∀ w, (Instr.makeMap 82 none).run Tryz.prog w = .ok (.map (some w.heap.size)) (w.alloc (.map #[] 0)) := fun w => by kernel_rfl
  go_wp2_with (first
    | (go_at_call 25
       refine HR.out.mono ?_
       rintro e w1 ⟨rfl, q1⟩
       have B1 := hid (bl_tr B0.out q1)
       have HQ : Hid (Calls Tryz.prog 26 #[.pointer (some ⟨P, 0, none⟩), .func (.func 27) #[] #[.pointer (some ⟨w1.heap.size + 1 + 1, 0, none⟩), .pointer (some ⟨w1.heap.size + 1, 0, none⟩), .pointer (some ⟨w.heap.size, 0, none⟩), .pointer (some ⟨w1.heap.size + 1 + 1 + 1, 0, none⟩)]] ((((w1.alloc (.map #[] 0)).alloc (.cells #[.map (some w1.heap.size)] 82)).alloc (.cells #[.int .i64 0] INTT)).alloc (.cells #[.int .i64 0] INTT)) fun e w' => e = .returned (.tuple #[]) ∧ Arr w' (w1.heap.size + 1 + 1) INTT [.int .i64 2] ∧ Arr w' (w1.heap.size + 1 + 1 + 1) INTT [.int .i64 0] ∧ Arr w' (w1.heap.size + 1) 82 [.map (some w1.heap.size)] ∧ Below w.heap.size w w') := hid (by
         have z1 : (w1.alloc (.map #[] 0)).heap.size = w1.heap.size + 1 := size_alloc _ _
         have x1 := bl_alloc (Below.refl w1.heap.size w1) (.map #[] 0)
         generalize w1.alloc (.map #[] 0) = w2 at z1 x1 ⊢
         rw [← z1]
         have z2 : (w2.alloc (.cells #[.map (some w1.heap.size)] 82)).heap.size = w2.heap.size + 1 := size_alloc _ _
         have x2 := bl_alloc (Below.refl w2.heap.size w2) (.cells #[.map (some w1.heap.size)] 82)
         have y2 : Arr (w2.alloc (.cells #[.map (some w1.heap.size)] 82)) w2.heap.size 82 [.map (some w1.heap.size)] := ⟨heap_alloc_at _ _⟩
         generalize w2.alloc (.cells #[.map (some w1.heap.size)] 82) = w3 at z2 x2 y2 ⊢
         rw [← z2]
         have z3 : (w3.alloc (.cells #[.int .i64 0] INTT)).heap.size = w3.heap.size + 1 := size_alloc _ _
         have x3 := bl_alloc (Below.refl w3.heap.size w3) (.cells #[.int .i64 0] INTT)
         have y3 : Arr (w3.alloc (.cells #[.int .i64 0] INTT)) w3.heap.size INTT [.int .i64 0] := ⟨heap_alloc_at _ _⟩
         generalize w3.alloc (.cells #[.int .i64 0] INTT) = w4 at z3 x3 y3 ⊢
         rw [← z3]
         have x4 := bl_alloc (Below.refl w4.heap.size w4) (.cells #[.int .i64 0] INTT)
         have y4 : Arr (w4.alloc (.cells #[.int .i64 0] INTT)) w4.heap.size INTT [.int .i64 0] := ⟨heap_alloc_at _ _⟩
         generalize w4.alloc (.cells #[.int .i64 0] INTT) = w5 at x4 y4 ⊢
         have b15 := bl_tr x1 (bl_tr x2 (bl_tr x3 x4))
         have b05 := bl_tr B1.out b15
         have h1s := B1.out.size
         refine (ea_pair w5 w3.heap.size w2.heap.size w.heap.size w4.heap.size P K 2 2 bx 0 (y3.stays x4) (HL.out.stays b05) (by omega) (by omega) (fun w6 h6 h7 => ea_var w6 _ _ _ _ K 5 1 h6 (by decide) (by decide) h7 (by omega))).mono ?_
         rintro e w7 ⟨rfl, q1, q2⟩
         have hs5 := y4.lt
         exact ⟨rfl, q1, q2.arr y4 (by omega), q2.arr ((y2.stays x3).stays x4) (by omega), b05.trans (q2.below (by omega) (by omega))⟩)
       clear q1)
    | (go_at_call 26
       refine HQ.out.mono ?_
       rintro e w5 ⟨rfl, q1, q2, q3, q4⟩
       have D5 : Below w5.heap.size w5 w5.drew := (Below.refl _ _).drew
       have AB := hid (q1.stays D5)
       have AZ := hid (q2.stays D5)
       have AM := hid (q3.stays D5)
       have B5 := hid (bl_tr q4 D5)
       clear q1 q2 q3 q4 D5))
  obtain ⟨B, hB⟩ : ∃ B, w1.heap.size + 1 + 1 = B := ⟨_, rfl⟩
  obtain ⟨Z, hZ⟩ : ∃ B, w1.heap.size + 1 + 1 + 1 = B := ⟨_, rfl⟩
  obtain ⟨Mb, hMb⟩ : ∃ B, w1.heap.size + 1 = B := ⟨_, rfl⟩
  have hk : Hid (∀ wz : World, Below w5.drew.heap.size w5.drew wz → (wz.cell? ⟨P, 0, none⟩ = some (.int .i64 7) ∧ wz.cell? ⟨P, 1, none⟩ = some (.string ⟨#[]⟩) ∧ wz.cell? ⟨P, 2, none⟩ = some (.slice none 0 0) ∧ wz.cell? ⟨P, 3, none⟩ = some (.int .i64 0) ∧ wz.cell? ⟨P, 4, none⟩ = some (.slice (some ⟨K, 0, none⟩) 2 2) ∧ wz.cell? ⟨w1.heap.size + 1 + 1, 0, none⟩ = some (.int .i64 2))) := hid fun wz hz => by
    have l := HL.out.stays (bl_tr B5.out hz)
    exact ⟨l.p 0 _ rfl, l.p 1 _ rfl, l.p 2 _ rfl, l.p 3 _ rfl, l.p 4 _ rfl, (AB.out.stays hz).cell 0⟩
  have s6 : w5.drew.cell? ⟨P, 0, none⟩ = some (.int .i64 7) ∧ w5.drew.cell? ⟨P, 1, none⟩ = some (.string ⟨#[]⟩) ∧ w5.drew.cell? ⟨P, 2, none⟩ = some (.slice none 0 0) ∧ w5.drew.cell? ⟨P, 3, none⟩ = some (.int .i64 0) ∧ w5.drew.cell? ⟨P, 4, none⟩ = some (.slice (some ⟨K, 0, none⟩) 2 2) ∧ w5.drew.cell? ⟨w1.heap.size + 1 + 1, 0, none⟩ = some (.int .i64 2) := hk.out _ (Below.refl _ _)
  have HBI : Hid (∀ wz : World, Below w5.drew.heap.size w5.drew wz → Calls Tryz.prog 29 #[.agg #[.int .i64 7, .string ⟨#[]⟩, .slice none 0 0, .int .i64 0, .slice (some ⟨K, 0, none⟩) 2 2]] wz fun e w' => (∃ p c, e = .returned (.slice p 1 c)) ∧ Below wz.heap.size wz w') := hid fun wz hz => by
    have l := HL.out.stays (bl_tr B5.out hz)
    exact Binders_pair wz K 2 2 bx 0 (by decide) (by decide) l.a l.b (fun w6 F G base T v6 h6 h7 hF => bind_var w6 F G base 1 T v6 h6 (by decide) K 5 h7 hF)
  clear d0 d1 d2 d3 d4 hB hZ hMb HR HQ
  refine wp_region_held_drew (S := fun wz => wz.cell? ⟨P, 0, none⟩ = some (.int .i64 7) ∧ wz.cell? ⟨P, 1, none⟩ = some (.string ⟨#[]⟩) ∧ wz.cell? ⟨P, 2, none⟩ = some (.slice none 0 0) ∧ wz.cell? ⟨P, 3, none⟩ = some (.int .i64 0) ∧ wz.cell? ⟨P, 4, none⟩ = some (.slice (some ⟨K, 0, none⟩) 2 2) ∧ wz.cell? ⟨w1.heap.size + 1 + 1, 0, none⟩ = some (.int .i64 2)) (by kernel_rfl) (s6) (fun hS => ?_)
  generalize w5.drew = wd at hS hk s6 HBI AB AZ AM B5 ⊢
  refine wpAnyH_take (i := 0) (v := ?_) rfl (by kernel_rfl) (by kernel_rfl) (by kernel_rfl) (fun _ _ _ h => h) (Or.inl ⟨by rfl, ?_⟩) hS ?_
  rotate_left
  · intro wz hz; go_simp; try with_reducible rfl
  try simp only [Act.put, List.setIfInBounds_toArray, List.set_cons_zero, List.set_cons_succ, List.getElem_toArray, List.getElem_cons_succ, List.getElem_cons_zero]
  refine wpAnyH_take (i := 1) (v := ?_) rfl (by kernel_rfl) (by kernel_rfl) (by kernel_rfl) (fun _ _ _ h => h) (Or.inl ⟨by rfl, ?_⟩) hS ?_
  rotate_left
  · intro wz hz; go_simp; try with_reducible rfl
  try simp only [Act.put, List.setIfInBounds_toArray, List.set_cons_zero, List.set_cons_succ, List.getElem_toArray, List.getElem_cons_succ, List.getElem_cons_zero]
  refine wpAnyH_take (i := 2) (v := ?_) rfl (by kernel_rfl) (by kernel_rfl) (by kernel_rfl) (fun _ _ _ h => h) (Or.inl ⟨by rfl, ?_⟩) hS ?_
  rotate_left
  · intro wz hz; obtain ⟨yy0, yy1, yy2, yy3, yy4, yy5⟩ := hz; go_simp; try with_reducible rfl
  try simp only [Act.put, List.setIfInBounds_toArray, List.set_cons_zero, List.set_cons_succ, List.getElem_toArray, List.getElem_cons_succ, List.getElem_cons_zero]
  refine wpAnyH_take (i := 5) (v := ?_) rfl (by kernel_rfl) (by kernel_rfl) (by kernel_rfl) (fun _ _ _ h => h) (Or.inl ⟨by rfl, ?_⟩) hS ?_
  rotate_left
  · intro wz hz; obtain ⟨yy0, yy1, yy2, yy3, yy4, yy5⟩ := hz; go_simp; try with_reducible rfl
  try simp only [Act.put, List.setIfInBounds_toArray, List.set_cons_zero, List.set_cons_succ, List.getElem_toArray, List.getElem_cons_succ, List.getElem_cons_zero]
  refine wpAnyH_ready (rs := [3]) (by kernel_rfl) (by simp) (AllReadyH.cons rfl (fun K hK => ?a2_3) AllReadyH.nil)
  case' a2_3 =>
    go_simp
    refine (HBI.out _ (Below.refl _ _)).mono ?_
    rintro e w9 ⟨⟨p9, c9, rfl⟩, b9⟩
    have B9 := hid b9
    clear b9
    refine hK.out _ _ ((hk.out _ B9.out)) (fun hSn => ?_)
    clear hK K hS
    have hS := hSn
    clear hSn
    try simp only [Act.put, List.setIfInBounds_toArray, List.set_cons_zero, List.set_cons_succ, List.getElem_toArray, List.getElem_cons_succ, List.getElem_cons_zero]
    refine wpAnyH_take (i := 4) (v := ?_) rfl (by kernel_rfl) (by kernel_rfl) (by kernel_rfl) (fun _ _ _ h => h) (Or.inl ⟨by rfl, ?_⟩) hS ?_
    rotate_left
    · intro wz hz; go_simp; try with_reducible rfl
    try simp only [Act.put, List.setIfInBounds_toArray, List.set_cons_zero, List.set_cons_succ, List.getElem_toArray, List.getElem_cons_succ, List.getElem_cons_zero]
    refine wpAnyH_take (i := 6) (v := ?_) rfl (by kernel_rfl) (by kernel_rfl) (by kernel_rfl) (fun _ _ _ h => h) (Or.inl ⟨by rfl, ?_⟩) hS ?_
    rotate_left
    · intro wz hz; go_simp; try with_reducible rfl
    try simp only [Act.put, List.setIfInBounds_toArray, List.set_cons_zero, List.set_cons_succ, List.getElem_toArray, List.getElem_cons_succ, List.getElem_cons_zero]
    refine wpAnyH_take (i := 7) (v := ?_) rfl (by kernel_rfl) (by kernel_rfl) (by kernel_rfl) (fun _ _ _ h => h) (Or.inl ⟨by rfl, ?_⟩) hS ?_
    rotate_left
    · intro wz hz; go_simp; try with_reducible rfl
    try simp only [Act.put, List.setIfInBounds_toArray, List.set_cons_zero, List.set_cons_succ, List.getElem_toArray, List.getElem_cons_succ, List.getElem_cons_zero]
    refine wpAnyH_done (by kernel_rfl) ?_ _
  all_goals (
    have az := (AZ.out.stays B9.out).cell
    have am := (AM.out.stays B9.out).cell
    go_wp2
    go_ret2
    exact ⟨rfl, bl_tr B5.out B9.out⟩)

end Go.Proofs.YtjodgnkhociaaaaGreat
