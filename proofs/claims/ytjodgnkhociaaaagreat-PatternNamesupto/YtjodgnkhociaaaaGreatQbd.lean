/- waferlaw15.alive. -/
import Derived.Deep.Cut
import Derived.Deep.CutRange
import Derived.Test.YtjodgnkhociaaaaGreatQaz
import Derived.Test.YtjodgnkhociaaaaGreatQbc
namespace Go.Proofs.YtjodgnkhociaaaaGreat
open Go.RowKit
set_option linter.unusedVariables false
set_option linter.unusedSimpArgs false

set_option maxRecDepth 100000 in
theorem fits_x (w : World) : Calls Tryz.prog 5 #[.agg #[.int .i64 2, .string bx, .slice none 0 0, .int .i64 0, .slice none 0 0], .agg #[.int .i64 1, .int .i64 5, .string ⟨#[]⟩, .slice none 0 0]] w fun e w' => (∃ a c b o c', e = .returned (.tuple #[.slice a 1 c, .slice (some ⟨b, o, none⟩) 1 c', .bool true]) ∧ w'.cell? ⟨b, o + 1, none⟩ = some (.int .i64 5) ∧ w.heap.size ≤ b) ∧ Below w.heap.size w w' := by
  have hP : PtAt w Any 1 [.int .i64 2, .string bx, .slice none 0 0, .int .i64 0, .slice none 0 0] (.mk 2 bx [] 0 []) := ⟨_, _, rfl, .inr ⟨rfl, _, _, rfl⟩, .inr ⟨rfl, _, _, rfl⟩⟩
  have hV : VAt w Any 1 [.int .i64 1, .int .i64 5, .string ⟨#[]⟩, .slice none 0 0] (.mk 1 5 ⟨#[]⟩ []) := ⟨_, rfl, .inr ⟨rfl, _, _, rfl⟩⟩
  have ho : outR (.mk 2 bx [] 0 []) (.mk 1 5 ⟨#[]⟩ []) = [(bx, .mk 1 5 ⟨#[]⟩ [])] := by simp [outR, fitR, aloneR]
  have hf : (fitR (.mk 2 bx [] 0 []) (.mk 1 5 ⟨#[]⟩ [])).2 = true := by simp [fitR, aloneR]
  refine (PFits_any w 1 _ _ hP 1 _ _ hV (by simp [Pt.cnt, Pt.cntL]) (by simp [Vl.cnt, Vl.cntL])).mono ?_
  rintro e w' ⟨⟨a, c, a', c', rfl, -, N, h⟩, hb⟩
  rw [ho] at h ⊢
  rw [hf]
  rcases h with ⟨b, o, c2, hv, hbK, -, -, hc⟩ | ⟨h0, -⟩
  · obtain ⟨vs, hl, hcs, h3⟩ := hc 0 _ rfl
    cases N with
    | zero => exact h3.elim
    | succ N =>
      obtain ⟨v, rfl, -⟩ := h3
      have e1 : a' = some ⟨b, o, none⟩ := by injection hv
      subst e1
      exact ⟨⟨a, c, b, o, c', rfl, by have := hcs 1 _ rfl; simpa [Vl.n] using this, hbK⟩, hb⟩
  · simp at h0
theorem alloc_then {K : Act → World → Prop} {a : Act} {wc : World} {ob : Obj} (h : (wc.alloc ob).heap[wc.heap.size]? = some ob → Below wc.heap.size wc (wc.alloc ob) → K a (wc.alloc ob)) : K a (wc.alloc ob) := h (heap_alloc_at wc ob) (bl_alloc (Below.refl _ _) _)
theorem keepsA {w : World} {A : Nat} {T : TypeId} {cur : List Value} (h : Arr w A T cur) (W : World) (j : Nat) (u : Value) : Keeps (fun b => w.heap.size ≤ b) W (W.setCell ⟨A, j, none⟩ u) := Keeps.set (K := fun b => w.heap.size ≤ b) (p := ⟨A, j, none⟩) (show ¬ w.heap.size ≤ A by have := h.lt; omega) u
theorem leafA {w : World} {K : Nat} {cur : List Value} (h : Arr w K PAT5 cur) (o : Nat) (k : Int) (s : ByteArray) (n : Int) (hc : ∀ j u, [.int .i64 k, .string s, .slice none 0 0, .int .i64 n, .slice none 0 0][j]? = some u → cur[o + j]? = some u) : Leaf5 w K o k s n := ⟨fun j u hu => (h.cell (o + j)).trans (hc j u hu), h.lt⟩
theorem leafA1 {w : World} {K : Nat} (h : Arr w K PAT5 [.int .i64 2, .string bx, .slice none 0 0, .int .i64 0, .slice none 0 0, .int .i64 3, .string ⟨#[]⟩, .slice none 0 0, .int .i64 1, .slice none 0 0]) : Leaf5 w K 0 2 bx 0 ∧ Leaf5 w K 5 3 (⟨#[]⟩ : ByteArray) 1 := by
  refine ⟨leafA h 0 _ _ _ fun j u hu => ?_, leafA h 5 _ _ _ fun j u hu => ?_⟩
  · match j, hu with | 0, hu => exact hu | 1, hu => exact hu | 2, hu => exact hu | 3, hu => exact hu | 4, hu => exact hu
  · match j, hu with | 0, hu => exact hu | 1, hu => exact hu | 2, hu => exact hu | 3, hu => exact hu | 4, hu => exact hu
theorem leafA2 {w : World} {K : Nat} (h : Arr w K PAT5 [.int .i64 2, .string bx, .slice none 0 0, .int .i64 0, .slice none 0 0, .int .i64 2, .string bx, .slice none 0 0, .int .i64 0, .slice none 0 0]) : Leaf5 w K 0 2 bx 0 ∧ Leaf5 w K 5 2 bx 0 := by
  refine ⟨leafA h 0 _ _ _ fun j u hu => ?_, leafA h 5 _ _ _ fun j u hu => ?_⟩
  · match j, hu with | 0, hu => exact hu | 1, hu => exact hu | 2, hu => exact hu | 3, hu => exact hu | 4, hu => exact hu
  · match j, hu with | 0, hu => exact hu | 1, hu => exact hu | 2, hu => exact hu | 3, hu => exact hu | 4, hu => exact hu
theorem StoG.set3 {w : World} {S M base n A : Nat} {v : Value} {cur : List Value} (h : StoG w S M base v n) (hA : Arr w A TY cur) (u0 u1 u2 : Value) : StoG (((w.setCell ⟨A, 0, none⟩ u0).setCell ⟨A, 1, none⟩ u1).setCell ⟨A, 2, none⟩ u2) S M base v n :=
  have no := h.not hA (by decide) (by decide)
  ((h.other (p := ⟨A, 0, none⟩) no.1 no.2.1 no.2.2 u0).other (p := ⟨A, 1, none⟩) no.1 no.2.1 no.2.2 u1).other (p := ⟨A, 2, none⟩) no.1 no.2.1 no.2.2 u2
theorem cells_off {w : World} {g A : Nat} {v0 v1 v2 : Value} {s : ByteArray} {x y z : Value} (h : Cells w g 0 [.string s, x, y, z]) (sA3 : Arr w A TY [v0, v1, v2]) (h0 : ∀ s, v0 ≠ .string s) (u0 u1 u2 : Value) : Cells (((w.setCell ⟨A, 0, none⟩ u0).setCell ⟨A, 1, none⟩ u1).setCell ⟨A, 2, none⟩ u2) g 0 [.string s, x, y, z] ∧ g < (((w.setCell ⟨A, 0, none⟩ u0).setCell ⟨A, 1, none⟩ u1).setCell ⟨A, 2, none⟩ u2).heap.size := by
  have kg : g ≠ A := by
    rintro rfl
    have q1 := h 0 _ rfl
    have q2 := sA3.cell 0
    rw [Nat.add_zero, q2] at q1
    simp at q1
    exact h0 _ q1
  have gl := World.block_lt_of_cell? _ _ (h 0 _ rfl)
  refine ⟨fun j u hu => (World.cell?_of_block (w := w) ((Below.heap_setCell _ ⟨A, 2, none⟩ _ _ kg).trans ((Below.heap_setCell _ ⟨A, 1, none⟩ _ _ kg).trans (Below.heap_setCell _ ⟨A, 0, none⟩ _ _ kg)))).trans (h j u hu), ?_⟩
  simp [World.setCell]
  exact gl
theorem new_store (w w1 : World) (hw : w1 = (w.alloc (.map #[] 0)).alloc (.cells #[.slice none 0 0, .map (some w.heap.size)] ST)) : StoG w1 (w.heap.size + 1) w.heap.size w1.heap.size (.slice none 0 0) 0 ∧ Below w.heap.size w w1 := by
  have z1 : (w.alloc (.map #[] 0)).heap.size = w.heap.size + 1 := size_alloc _ _
  have e1 := heap_alloc_at w (.map #[] 0)
  have b1 := bl_alloc (Below.refl w.heap.size w) (.map #[] 0)
  generalize w.alloc (.map #[] 0) = w2 at z1 e1 b1 hw
  have y : Arr (w2.alloc (.cells #[.slice none 0 0, .map (some w.heap.size)] ST)) w2.heap.size ST [.slice none 0 0, .map (some w.heap.size)] := ⟨heap_alloc_at _ _⟩
  have b2 := bl_alloc (Below.refl w2.heap.size w2) (.cells #[.slice none 0 0, .map (some w.heap.size)] ST)
  rw [← hw] at y b2
  rw [← z1]
  exact ⟨⟨y, (b2.block _ (by omega)).trans e1, ⟨rfl, .inl ⟨rfl, rfl⟩⟩, Nat.le_refl _⟩, bl_tr b1 b2⟩
set_option maxHeartbeats 8000000 in
set_option maxRecDepth 100000 in
theorem alive_any (w : World) : Calls Tryz.prog 7 #[] w fun e w' => e = .returned (.bool true) ∧ Below w.heap.size w w' := by
  go_enter Tryz.func7, Tryz.ntmps7
  go_wp2_with (go_at_call 12; refine (New_any _).mono ?_; rintro e w1 ⟨rfl, hw1⟩; obtain ⟨hs1, hb1⟩ := new_store w w1 hw1; clear hw1)
  have BX0 : Below w1.heap.size w1 (w1.alloc (.cells #[.int .i64 2, .string ⟨#[120]⟩, .slice none 0 0, .int .i64 0, .slice none 0 0] PAT5)).drew := (bl_alloc (Below.refl _ _) _).drew
  have S2 := hs1.stays BX0
  have XA : Arr (w1.alloc (.cells #[.int .i64 2, .string ⟨#[120]⟩, .slice none 0 0, .int .i64 0, .slice none 0 0] PAT5)).drew w1.heap.size PAT5 [.int .i64 2, .string bx, .slice none 0 0, .int .i64 0, .slice none 0 0] := Arr.stays (w := (w1.alloc (.cells #[.int .i64 2, .string ⟨#[120]⟩, .slice none 0 0, .int .i64 0, .slice none 0 0] PAT5))) ⟨heap_alloc_at _ _⟩ (Below.refl _ _).drew
  have XS : Hid (StoG (w1.alloc (.cells #[.int .i64 2, .string ⟨#[120]⟩, .slice none 0 0, .int .i64 0, .slice none 0 0] PAT5)).drew (w.heap.size + 1) w.heap.size w1.heap.size (.slice none 0 0) 0) := hid S2
  have hsl : w.heap.size + 1 < w1.heap.size := hs1.st.lt
  have HNE : Hid (∀ k, (w1.alloc (.cells #[.int .i64 2, .string ⟨#[120]⟩, .slice none 0 0, .int .i64 0, .slice none 0 0] PAT5)).drew.heap.size ≤ k → ¬ Es (w.heap.size + 1) (.slice none 0 0) k) := hid (fun k hk e => by
    have h1 := BX0.size
    rcases e with e | e
    · omega
    · simp [Value.ownBlock] at e)
  have HC : Hid (∀ wz K, Below (w1.alloc (.cells #[.int .i64 2, .string ⟨#[120]⟩, .slice none 0 0, .int .i64 0, .slice none 0 0] PAT5)).drew.heap.size (w1.alloc (.cells #[.int .i64 2, .string ⟨#[120]⟩, .slice none 0 0, .int .i64 0, .slice none 0 0] PAT5)).drew wz → (w1.alloc (.cells #[.int .i64 2, .string ⟨#[120]⟩, .slice none 0 0, .int .i64 0, .slice none 0 0] PAT5)).drew.heap.size ≤ K → Arr wz K PAT5 [.int .i64 2, .string bx, .slice none 0 0, .int .i64 0, .slice none 0 0, .int .i64 3, .string ⟨#[]⟩, .slice none 0 0, .int .i64 1, .slice none 0 0] → Calls Tryz.prog 13 #[.agg #[.int .i64 7, .string ⟨#[]⟩, .slice none 0 0, .int .i64 0, .slice (some ⟨K, 0, none⟩) 2 2], nilEnv, .pointer (some ⟨w.heap.size + 1, 0, none⟩)] wz fun e w' => (∃ a c N' g cb s' k', e = .returned (.tuple #[.agg #[.int .i64 5, .int .i64 0, .slice a 2 c], .slice (some ⟨g, 0, none⟩) 1 cb, .int .i64 0]) ∧ TAt w' (fun b => wz.heap.size ≤ b) N' [.int .i64 5, .int .i64 0, .slice a 2 c] tPair ∧ Cells w' g 0 [.string bx, .int .i64 7, .int .i64 0, .slice s' 0 k']) ∧ (∃ v', StoG w' (w.heap.size + 1) w.heap.size w1.heap.size v' 1) ∧ Xf (Es (w.heap.size + 1) (.slice none 0 0)) wz w') := hid (fun wz K hz hK hA => Check_one wz K _ _ _ _ (S2.stays hz) (leafA1 hA).1 (leafA1 hA).2 (HNE.out _ hK))
  have nX : ¬ Es (w.heap.size + 1) (.slice none 0 0) w1.heap.size := fun e => e.elim (fun e => by omega) (fun e => by simp [Value.ownBlock] at e)
  have hk : Hid (∀ wz, Xf (Es (w.heap.size + 1) (.slice none 0 0)) (w1.alloc (.cells #[.int .i64 2, .string ⟨#[120]⟩, .slice none 0 0, .int .i64 0, .slice none 0 0] PAT5)).drew wz → (wz.cell? ⟨w1.heap.size, 0, none⟩ = some (.int .i64 2) ∧ wz.cell? ⟨w1.heap.size, 1, none⟩ = some (.string bx) ∧ wz.cell? ⟨w1.heap.size, 2, none⟩ = some (.slice none 0 0) ∧ wz.cell? ⟨w1.heap.size, 3, none⟩ = some (.int .i64 0) ∧ wz.cell? ⟨w1.heap.size, 4, none⟩ = some (.slice none 0 0))) := hid (fun wz hz => by
    have q := (hz.arr XA nX).cell
    exact ⟨q 0, q 1, q 2, q 3, q 4⟩)
  have s3 : (w1.alloc (.cells #[.int .i64 2, .string ⟨#[120]⟩, .slice none 0 0, .int .i64 0, .slice none 0 0] PAT5)).drew.cell? ⟨w1.heap.size, 0, none⟩ = some (.int .i64 2) ∧ (w1.alloc (.cells #[.int .i64 2, .string ⟨#[120]⟩, .slice none 0 0, .int .i64 0, .slice none 0 0] PAT5)).drew.cell? ⟨w1.heap.size, 1, none⟩ = some (.string bx) ∧ (w1.alloc (.cells #[.int .i64 2, .string ⟨#[120]⟩, .slice none 0 0, .int .i64 0, .slice none 0 0] PAT5)).drew.cell? ⟨w1.heap.size, 2, none⟩ = some (.slice none 0 0) ∧ (w1.alloc (.cells #[.int .i64 2, .string ⟨#[120]⟩, .slice none 0 0, .int .i64 0, .slice none 0 0] PAT5)).drew.cell? ⟨w1.heap.size, 3, none⟩ = some (.int .i64 0) ∧ (w1.alloc (.cells #[.int .i64 2, .string ⟨#[120]⟩, .slice none 0 0, .int .i64 0, .slice none 0 0] PAT5)).drew.cell? ⟨w1.heap.size, 4, none⟩ = some (.slice none 0 0) := hk.out _ (Xf.of_below (Below.refl _ _))
  have BC : Hid (Below (w1.alloc (.cells #[.int .i64 2, .string ⟨#[120]⟩, .slice none 0 0, .int .i64 0, .slice none 0 0] PAT5)).drew.heap.size (w1.alloc (.cells #[.int .i64 2, .string ⟨#[120]⟩, .slice none 0 0, .int .i64 0, .slice none 0 0] PAT5)).drew (w1.alloc (.cells #[.int .i64 2, .string ⟨#[120]⟩, .slice none 0 0, .int .i64 0, .slice none 0 0] PAT5)).drew) := hid (Below.refl _ _)
  have HB1 := hid hb1
  have HWD : Hid (w1.heap.size < (w1.alloc (.cells #[.int .i64 2, .string ⟨#[120]⟩, .slice none 0 0, .int .i64 0, .slice none 0 0] PAT5)).drew.heap.size) := hid XA.lt
  have HXB : Hid (∀ wz, Xf (Es (w.heap.size + 1) (.slice none 0 0)) (w1.alloc (.cells #[.int .i64 2, .string ⟨#[120]⟩, .slice none 0 0, .int .i64 0, .slice none 0 0] PAT5)).drew wz → Below w.heap.size w wz) := hid (fun wz hz => (hb1.trans (Below.mono BX0 (by have := hb1.size; omega))).trans (hz.below (by have := BX0.size; omega) (fun k e => e.elim (fun e => by omega) (fun e => by simp [Value.ownBlock] at e))))
  have HS1 := hid hs1
  have HSL := hid hsl
  clear S2 XA hs1 hb1 nX hsl BX0
  go_cut [3, 4, 5] from 14 to 25 (fun u3 u4 u5 wx => ∃ A a c N g cb s' k' v, u3 = .pointer (some ⟨A, 0, none⟩) ∧ u4 = .slice (some ⟨g, 0, none⟩) 1 cb ∧ u5 = .int .i64 0 ∧ Arr wx A TY [.int .i64 5, .int .i64 0, .slice a 2 c] ∧ TAt wx Any N [.int .i64 5, .int .i64 0, .slice a 2 c] tPair ∧ Cells wx g 0 [.string bx, .int .i64 7, .int .i64 0, .slice s' 0 k'] ∧ g < wx.heap.size ∧ StoG wx (w.heap.size + 1) w.heap.size w1.heap.size v 1 ∧ (wx.cell? ⟨w1.heap.size, 0, none⟩ = some (.int .i64 2) ∧ wx.cell? ⟨w1.heap.size, 1, none⟩ = some (.string bx) ∧ wx.cell? ⟨w1.heap.size, 2, none⟩ = some (.slice none 0 0) ∧ wx.cell? ⟨w1.heap.size, 3, none⟩ = some (.int .i64 0) ∧ wx.cell? ⟨w1.heap.size, 4, none⟩ = some (.slice none 0 0)) ∧ w1.heap.size < A ∧ Below w.heap.size w wx)
  case first =>
    refine wp_region_held_drew (S := fun wz => wz.cell? ⟨w1.heap.size, 0, none⟩ = some (.int .i64 2) ∧ wz.cell? ⟨w1.heap.size, 1, none⟩ = some (.string bx) ∧ wz.cell? ⟨w1.heap.size, 2, none⟩ = some (.slice none 0 0) ∧ wz.cell? ⟨w1.heap.size, 3, none⟩ = some (.int .i64 0) ∧ wz.cell? ⟨w1.heap.size, 4, none⟩ = some (.slice none 0 0)) (by kernel_rfl) (s3) (fun hS => ?_)
    generalize (w1.alloc (.cells #[.int .i64 2, .string ⟨#[120]⟩, .slice none 0 0, .int .i64 0, .slice none 0 0] PAT5)).drew = wd at hS hk s3 HC BC HNE XS HWD HXB ⊢
    refine wpAnyH_take (i := 0) (v := ?_) rfl (by kernel_rfl) (by kernel_rfl) (by kernel_rfl) (fun _ _ _ h => h) (Or.inl ⟨by rfl, ?_⟩) hS ?_
    rotate_left
    · intro wz hz; obtain ⟨yy0, yy1, yy2, yy3, yy4⟩ := hz; go_simp; try with_reducible rfl
    try simp only [Act.put, List.setIfInBounds_toArray, List.set_cons_zero, List.set_cons_succ, List.getElem_toArray, List.getElem_cons_succ, List.getElem_cons_zero]
    refine wpAnyH_take (i := 1) (v := ?_) rfl (by kernel_rfl) (by kernel_rfl) (by kernel_rfl) (fun _ _ _ h => h) (Or.inl ⟨by rfl, ?_⟩) hS ?_
    rotate_left
    · intro wz hz; go_simp; try with_reducible rfl
    try simp only [Act.put, List.setIfInBounds_toArray, List.set_cons_zero, List.set_cons_succ, List.getElem_toArray, List.getElem_cons_succ, List.getElem_cons_zero]
    refine wpAnyH_take (i := 4) (v := ?_) rfl (by kernel_rfl) (by kernel_rfl) (by kernel_rfl) (fun _ _ _ h => h) (Or.inl ⟨by rfl, ?_⟩) hS ?_
    rotate_left
    · intro wz hz; go_simp; try with_reducible rfl
    try simp only [Act.put, List.setIfInBounds_toArray, List.set_cons_zero, List.set_cons_succ, List.getElem_toArray, List.getElem_cons_succ, List.getElem_cons_zero]
    refine wpAnyH_take (i := 6) (v := ?_) rfl (by kernel_rfl) (by kernel_rfl) (by kernel_rfl) (fun _ _ _ h => h) (Or.inl ⟨by rfl, ?_⟩) hS ?_
    rotate_left
    · intro wz hz; go_simp; try with_reducible rfl
    try simp only [Act.put, List.setIfInBounds_toArray, List.set_cons_zero, List.set_cons_succ, List.getElem_toArray, List.getElem_cons_succ, List.getElem_cons_zero]
    refine wpAnyH_ready (rs := [2, 5, 12]) (by kernel_rfl) (by simp) (AllReadyH.cons rfl (fun K hK => ?a1_2) (AllReadyH.cons rfl (fun K hK => ?a1_5) (AllReadyH.cons rfl (fun K hK => ?a1_12) AllReadyH.nil)))
    case' a1_2 =>
      go_simp
      refine alloc_then (K := K) (fun hA hb => ?_)
      have KR := hid (show Arr _ _ PAT5 [.int .i64 2, .string bx, .slice none 0 0, .int .i64 0, .slice none 0 0, .int .i64 3, .string ⟨#[]⟩, .slice none 0 0, .int .i64 1, .slice none 0 0] from ⟨hA⟩)
      have hKl := BC.out.size
      try simp only [size_alloc] at KR
      try simp only [size_alloc] at hKl
      try have A3 := hid (A3.out.stays hb)
      refine hK.out _ _ ((by first | exact hk.out _ (Xf.of_below (bl_tr BC.out hb)) | exact hk.out _ (XC.out.trans (Xf.of_below hb)))) (fun hSn => ?_)
      clear hK K hS
      have hS := hSn
      clear hSn
      try simp only [Act.put, List.setIfInBounds_toArray, List.set_cons_zero, List.set_cons_succ, List.getElem_toArray, List.getElem_cons_succ, List.getElem_cons_zero]
      try have BC := hid (bl_tr BC.out hb)
      clear hA hb
      refine wpAnyH_take (i := 3) (v := ?_) rfl (by kernel_rfl) (by kernel_rfl) (by kernel_rfl) (fun _ _ _ h => h) (Or.inl ⟨by rfl, ?_⟩) hS ?_
      rotate_left
      · intro wz hz; go_simp; try with_reducible rfl
      try simp only [Act.put, List.setIfInBounds_toArray, List.set_cons_zero, List.set_cons_succ, List.getElem_toArray, List.getElem_cons_succ, List.getElem_cons_zero]
      refine wpAnyH_ready (rs := [5, 12]) (by kernel_rfl) (by simp) (AllReadyH.cons rfl (fun K hK => ?a2_5) (AllReadyH.cons rfl (fun K hK => ?a2_12) AllReadyH.nil))
      case' a2_5 =>
        go_simp
        refine (Own_empty _).mono ?_
        rintro e w8 ⟨rfl, b8⟩
        refine hK.out _ _ ((hk.out _ (Xf.of_below (bl_tr BC.out b8)))) (fun hSn => ?_)
        clear hK K hS
        have hS := hSn
        clear hSn
        try simp only [Act.put, List.setIfInBounds_toArray, List.set_cons_zero, List.set_cons_succ, List.getElem_toArray, List.getElem_cons_succ, List.getElem_cons_zero]
        have BC := hid (bl_tr BC.out b8)
        try have KR := hid (KR.out.stays b8)
        try have A3 := hid (A3.out.stays b8)
        clear b8
        refine wpAnyH_ready (rs := [7, 12]) (by kernel_rfl) (by simp) (AllReadyH.cons rfl (fun K hK => ?a3_7) (AllReadyH.cons rfl (fun K hK => ?a3_12) AllReadyH.nil))
        case' a3_7 =>
          go_simp
          refine (HC.out _ _ BC.out hKl KR.out).mono ?_
          rintro e w9 ⟨⟨a9, c9, N9, g9, cb9, s9, k9, rfl, t9, gc9⟩, ⟨v9, h9⟩, x9⟩
          have XC := hid ((Xf.of_below BC.out).trans x9)
          try have HKA := hid (keepsA A3.out)
          try have A3 := hid (x9.arr A3.out (HNE.out _ hAl))
          have T9 := hid t9
          have G9 := hid gc9
          have S9 := hid h9
          clear BC KR
          refine hK.out _ _ ((hk.out _ XC.out)) (fun hSn => ?_)
          clear hK K hS
          have hS := hSn
          clear hSn
          try simp only [Act.put, List.setIfInBounds_toArray, List.set_cons_zero, List.set_cons_succ, List.getElem_toArray, List.getElem_cons_succ, List.getElem_cons_zero]
          refine wpAnyH_take (i := 8) (v := ?_) rfl (by kernel_rfl) (by kernel_rfl) (by kernel_rfl) (fun _ _ _ h => h) (Or.inl ⟨by rfl, ?_⟩) hS ?_
          rotate_left
          · intro wz hz; go_simp; try with_reducible rfl
          try simp only [Act.put, List.setIfInBounds_toArray, List.set_cons_zero, List.set_cons_succ, List.getElem_toArray, List.getElem_cons_succ, List.getElem_cons_zero]
          refine wpAnyH_take (i := 9) (v := ?_) rfl (by kernel_rfl) (by kernel_rfl) (by kernel_rfl) (fun _ _ _ h => h) (Or.inl ⟨by rfl, ?_⟩) hS ?_
          rotate_left
          · intro wz hz; go_simp; try with_reducible rfl
          try simp only [Act.put, List.setIfInBounds_toArray, List.set_cons_zero, List.set_cons_succ, List.getElem_toArray, List.getElem_cons_succ, List.getElem_cons_zero]
          refine wpAnyH_take (i := 10) (v := ?_) rfl (by kernel_rfl) (by kernel_rfl) (by kernel_rfl) (fun _ _ _ h => h) (Or.inl ⟨by rfl, ?_⟩) hS ?_
          rotate_left
          · intro wz hz; go_simp; try with_reducible rfl
          try simp only [Act.put, List.setIfInBounds_toArray, List.set_cons_zero, List.set_cons_succ, List.getElem_toArray, List.getElem_cons_succ, List.getElem_cons_zero]
          refine wpAnyH_take (i := 11) (v := ?_) rfl (by kernel_rfl) (by kernel_rfl) (by kernel_rfl) (fun _ _ _ h => h) (Or.inl ⟨by rfl, ?_⟩) hS ?_
          rotate_left
          · intro wz hz; go_simp; try with_reducible rfl
          try simp only [Act.put, List.setIfInBounds_toArray, List.set_cons_zero, List.set_cons_succ, List.getElem_toArray, List.getElem_cons_succ, List.getElem_cons_zero]
          refine wpAnyH_ready (rs := [12]) (by kernel_rfl) (by simp) (AllReadyH.cons rfl (fun K hK => ?a4_12) AllReadyH.nil)
          case' a4_12 =>
            go_simp
            refine alloc_then (K := K) (fun hA hb => ?_)
            try have KR := hid (KR.out.stays hb)
            try have A3 := hid (show Arr _ _ TY [.int .i64 0, .int .i64 0, .slice none 0 0] from ⟨hA⟩)
            try have hAl := BC.out.size
            try simp only [size_alloc] at A3
            try simp only [size_alloc] at hAl
            refine hK.out _ _ ((by first | exact hk.out _ (Xf.of_below (bl_tr BC.out hb)) | exact hk.out _ (XC.out.trans (Xf.of_below hb)))) (fun hSn => ?_)
            clear hK K hS
            have hS := hSn
            clear hSn
            try simp only [Act.put, List.setIfInBounds_toArray, List.set_cons_zero, List.set_cons_succ, List.getElem_toArray, List.getElem_cons_succ, List.getElem_cons_zero]
            try have BC := hid (bl_tr BC.out hb)
            clear hA hb
            refine wpAnyH_ready (rs := [13]) (by kernel_rfl) (by simp) (AllReadyH.cons rfl (fun K hK => ?a5_13) AllReadyH.nil)
            case' a5_13 =>
              try have a5 := A3.out.cell
              try have f5 := A3.out.frozen
              go_simp
              refine hK.out _ _ ((by first | exact hk.out _ (((XC.out.set (.inr hAl) 0 _).set (.inr hAl) 1 _).set (.inr hAl) 2 _) | exact hk.out _ (XC.out.trans (Xf.of_below (bl_alloc (Below.refl _ _) _))))) (fun hSn => ?_)
              clear hK K hS
              have hS := hSn
              clear hSn
              try simp only [Act.put, List.setIfInBounds_toArray, List.set_cons_zero, List.set_cons_succ, List.getElem_toArray, List.getElem_cons_succ, List.getElem_cons_zero]
              refine wpAnyH_take (i := 14) (v := ?_) rfl (by kernel_rfl) (by kernel_rfl) (by kernel_rfl) (fun _ _ _ h => h) (Or.inl ⟨by rfl, ?_⟩) hS ?_
              rotate_left
              · intro wz hz; go_simp; try with_reducible rfl
              try simp only [Act.put, List.setIfInBounds_toArray, List.set_cons_zero, List.set_cons_succ, List.getElem_toArray, List.getElem_cons_succ, List.getElem_cons_zero]
              refine wpAnyH_take (i := 15) (v := ?_) rfl (by kernel_rfl) (by kernel_rfl) (by kernel_rfl) (fun _ _ _ h => h) (Or.inl ⟨by rfl, ?_⟩) hS ?_
              rotate_left
              · intro wz hz; go_simp; try with_reducible rfl
              try simp only [Act.put, List.setIfInBounds_toArray, List.set_cons_zero, List.set_cons_succ, List.getElem_toArray, List.getElem_cons_succ, List.getElem_cons_zero]
              refine wpAnyH_done (by kernel_rfl) ?_ _
        case' a3_12 =>
          go_simp
          refine alloc_then (K := K) (fun hA hb => ?_)
          try have KR := hid (KR.out.stays hb)
          try have A3 := hid (show Arr _ _ TY [.int .i64 0, .int .i64 0, .slice none 0 0] from ⟨hA⟩)
          try have hAl := BC.out.size
          try simp only [size_alloc] at A3
          try simp only [size_alloc] at hAl
          refine hK.out _ _ ((by first | exact hk.out _ (Xf.of_below (bl_tr BC.out hb)) | exact hk.out _ (XC.out.trans (Xf.of_below hb)))) (fun hSn => ?_)
          clear hK K hS
          have hS := hSn
          clear hSn
          try simp only [Act.put, List.setIfInBounds_toArray, List.set_cons_zero, List.set_cons_succ, List.getElem_toArray, List.getElem_cons_succ, List.getElem_cons_zero]
          try have BC := hid (bl_tr BC.out hb)
          clear hA hb
          refine wpAnyH_ready (rs := [7]) (by kernel_rfl) (by simp) (AllReadyH.cons rfl (fun K hK => ?a6_7) AllReadyH.nil)
          case' a6_7 =>
            go_simp
            refine (HC.out _ _ BC.out hKl KR.out).mono ?_
            rintro e w9 ⟨⟨a9, c9, N9, g9, cb9, s9, k9, rfl, t9, gc9⟩, ⟨v9, h9⟩, x9⟩
            have XC := hid ((Xf.of_below BC.out).trans x9)
            try have HKA := hid (keepsA A3.out)
            try have A3 := hid (x9.arr A3.out (HNE.out _ hAl))
            have T9 := hid t9
            have G9 := hid gc9
            have S9 := hid h9
            clear BC KR
            refine hK.out _ _ ((hk.out _ XC.out)) (fun hSn => ?_)
            clear hK K hS
            have hS := hSn
            clear hSn
            try simp only [Act.put, List.setIfInBounds_toArray, List.set_cons_zero, List.set_cons_succ, List.getElem_toArray, List.getElem_cons_succ, List.getElem_cons_zero]
            refine wpAnyH_take (i := 8) (v := ?_) rfl (by kernel_rfl) (by kernel_rfl) (by kernel_rfl) (fun _ _ _ h => h) (Or.inl ⟨by rfl, ?_⟩) hS ?_
            rotate_left
            · intro wz hz; go_simp; try with_reducible rfl
            try simp only [Act.put, List.setIfInBounds_toArray, List.set_cons_zero, List.set_cons_succ, List.getElem_toArray, List.getElem_cons_succ, List.getElem_cons_zero]
            refine wpAnyH_take (i := 9) (v := ?_) rfl (by kernel_rfl) (by kernel_rfl) (by kernel_rfl) (fun _ _ _ h => h) (Or.inl ⟨by rfl, ?_⟩) hS ?_
            rotate_left
            · intro wz hz; go_simp; try with_reducible rfl
            try simp only [Act.put, List.setIfInBounds_toArray, List.set_cons_zero, List.set_cons_succ, List.getElem_toArray, List.getElem_cons_succ, List.getElem_cons_zero]
            refine wpAnyH_take (i := 10) (v := ?_) rfl (by kernel_rfl) (by kernel_rfl) (by kernel_rfl) (fun _ _ _ h => h) (Or.inl ⟨by rfl, ?_⟩) hS ?_
            rotate_left
            · intro wz hz; go_simp; try with_reducible rfl
            try simp only [Act.put, List.setIfInBounds_toArray, List.set_cons_zero, List.set_cons_succ, List.getElem_toArray, List.getElem_cons_succ, List.getElem_cons_zero]
            refine wpAnyH_take (i := 11) (v := ?_) rfl (by kernel_rfl) (by kernel_rfl) (by kernel_rfl) (fun _ _ _ h => h) (Or.inl ⟨by rfl, ?_⟩) hS ?_
            rotate_left
            · intro wz hz; go_simp; try with_reducible rfl
            try simp only [Act.put, List.setIfInBounds_toArray, List.set_cons_zero, List.set_cons_succ, List.getElem_toArray, List.getElem_cons_succ, List.getElem_cons_zero]
            refine wpAnyH_ready (rs := [13]) (by kernel_rfl) (by simp) (AllReadyH.cons rfl (fun K hK => ?a7_13) AllReadyH.nil)
            case' a7_13 =>
              try have a5 := A3.out.cell
              try have f5 := A3.out.frozen
              go_simp
              refine hK.out _ _ ((by first | exact hk.out _ (((XC.out.set (.inr hAl) 0 _).set (.inr hAl) 1 _).set (.inr hAl) 2 _) | exact hk.out _ (XC.out.trans (Xf.of_below (bl_alloc (Below.refl _ _) _))))) (fun hSn => ?_)
              clear hK K hS
              have hS := hSn
              clear hSn
              try simp only [Act.put, List.setIfInBounds_toArray, List.set_cons_zero, List.set_cons_succ, List.getElem_toArray, List.getElem_cons_succ, List.getElem_cons_zero]
              refine wpAnyH_take (i := 14) (v := ?_) rfl (by kernel_rfl) (by kernel_rfl) (by kernel_rfl) (fun _ _ _ h => h) (Or.inl ⟨by rfl, ?_⟩) hS ?_
              rotate_left
              · intro wz hz; go_simp; try with_reducible rfl
              try simp only [Act.put, List.setIfInBounds_toArray, List.set_cons_zero, List.set_cons_succ, List.getElem_toArray, List.getElem_cons_succ, List.getElem_cons_zero]
              refine wpAnyH_take (i := 15) (v := ?_) rfl (by kernel_rfl) (by kernel_rfl) (by kernel_rfl) (fun _ _ _ h => h) (Or.inl ⟨by rfl, ?_⟩) hS ?_
              rotate_left
              · intro wz hz; go_simp; try with_reducible rfl
              try simp only [Act.put, List.setIfInBounds_toArray, List.set_cons_zero, List.set_cons_succ, List.getElem_toArray, List.getElem_cons_succ, List.getElem_cons_zero]
              refine wpAnyH_done (by kernel_rfl) ?_ _
      case' a2_12 =>
        go_simp
        refine alloc_then (K := K) (fun hA hb => ?_)
        try have KR := hid (KR.out.stays hb)
        try have A3 := hid (show Arr _ _ TY [.int .i64 0, .int .i64 0, .slice none 0 0] from ⟨hA⟩)
        try have hAl := BC.out.size
        try simp only [size_alloc] at A3
        try simp only [size_alloc] at hAl
        refine hK.out _ _ ((by first | exact hk.out _ (Xf.of_below (bl_tr BC.out hb)) | exact hk.out _ (XC.out.trans (Xf.of_below hb)))) (fun hSn => ?_)
        clear hK K hS
        have hS := hSn
        clear hSn
        try simp only [Act.put, List.setIfInBounds_toArray, List.set_cons_zero, List.set_cons_succ, List.getElem_toArray, List.getElem_cons_succ, List.getElem_cons_zero]
        try have BC := hid (bl_tr BC.out hb)
        clear hA hb
        refine wpAnyH_ready (rs := [5]) (by kernel_rfl) (by simp) (AllReadyH.cons rfl (fun K hK => ?a8_5) AllReadyH.nil)
        case' a8_5 =>
          go_simp
          refine (Own_empty _).mono ?_
          rintro e w8 ⟨rfl, b8⟩
          refine hK.out _ _ ((hk.out _ (Xf.of_below (bl_tr BC.out b8)))) (fun hSn => ?_)
          clear hK K hS
          have hS := hSn
          clear hSn
          try simp only [Act.put, List.setIfInBounds_toArray, List.set_cons_zero, List.set_cons_succ, List.getElem_toArray, List.getElem_cons_succ, List.getElem_cons_zero]
          have BC := hid (bl_tr BC.out b8)
          try have KR := hid (KR.out.stays b8)
          try have A3 := hid (A3.out.stays b8)
          clear b8
          refine wpAnyH_ready (rs := [7]) (by kernel_rfl) (by simp) (AllReadyH.cons rfl (fun K hK => ?a9_7) AllReadyH.nil)
          case' a9_7 =>
            go_simp
            refine (HC.out _ _ BC.out hKl KR.out).mono ?_
            rintro e w9 ⟨⟨a9, c9, N9, g9, cb9, s9, k9, rfl, t9, gc9⟩, ⟨v9, h9⟩, x9⟩
            have XC := hid ((Xf.of_below BC.out).trans x9)
            try have HKA := hid (keepsA A3.out)
            try have A3 := hid (x9.arr A3.out (HNE.out _ hAl))
            have T9 := hid t9
            have G9 := hid gc9
            have S9 := hid h9
            clear BC KR
            refine hK.out _ _ ((hk.out _ XC.out)) (fun hSn => ?_)
            clear hK K hS
            have hS := hSn
            clear hSn
            try simp only [Act.put, List.setIfInBounds_toArray, List.set_cons_zero, List.set_cons_succ, List.getElem_toArray, List.getElem_cons_succ, List.getElem_cons_zero]
            refine wpAnyH_take (i := 8) (v := ?_) rfl (by kernel_rfl) (by kernel_rfl) (by kernel_rfl) (fun _ _ _ h => h) (Or.inl ⟨by rfl, ?_⟩) hS ?_
            rotate_left
            · intro wz hz; go_simp; try with_reducible rfl
            try simp only [Act.put, List.setIfInBounds_toArray, List.set_cons_zero, List.set_cons_succ, List.getElem_toArray, List.getElem_cons_succ, List.getElem_cons_zero]
            refine wpAnyH_take (i := 9) (v := ?_) rfl (by kernel_rfl) (by kernel_rfl) (by kernel_rfl) (fun _ _ _ h => h) (Or.inl ⟨by rfl, ?_⟩) hS ?_
            rotate_left
            · intro wz hz; go_simp; try with_reducible rfl
            try simp only [Act.put, List.setIfInBounds_toArray, List.set_cons_zero, List.set_cons_succ, List.getElem_toArray, List.getElem_cons_succ, List.getElem_cons_zero]
            refine wpAnyH_take (i := 10) (v := ?_) rfl (by kernel_rfl) (by kernel_rfl) (by kernel_rfl) (fun _ _ _ h => h) (Or.inl ⟨by rfl, ?_⟩) hS ?_
            rotate_left
            · intro wz hz; go_simp; try with_reducible rfl
            try simp only [Act.put, List.setIfInBounds_toArray, List.set_cons_zero, List.set_cons_succ, List.getElem_toArray, List.getElem_cons_succ, List.getElem_cons_zero]
            refine wpAnyH_take (i := 11) (v := ?_) rfl (by kernel_rfl) (by kernel_rfl) (by kernel_rfl) (fun _ _ _ h => h) (Or.inl ⟨by rfl, ?_⟩) hS ?_
            rotate_left
            · intro wz hz; go_simp; try with_reducible rfl
            try simp only [Act.put, List.setIfInBounds_toArray, List.set_cons_zero, List.set_cons_succ, List.getElem_toArray, List.getElem_cons_succ, List.getElem_cons_zero]
            refine wpAnyH_ready (rs := [13]) (by kernel_rfl) (by simp) (AllReadyH.cons rfl (fun K hK => ?a10_13) AllReadyH.nil)
            case' a10_13 =>
              try have a5 := A3.out.cell
              try have f5 := A3.out.frozen
              go_simp
              refine hK.out _ _ ((by first | exact hk.out _ (((XC.out.set (.inr hAl) 0 _).set (.inr hAl) 1 _).set (.inr hAl) 2 _) | exact hk.out _ (XC.out.trans (Xf.of_below (bl_alloc (Below.refl _ _) _))))) (fun hSn => ?_)
              clear hK K hS
              have hS := hSn
              clear hSn
              try simp only [Act.put, List.setIfInBounds_toArray, List.set_cons_zero, List.set_cons_succ, List.getElem_toArray, List.getElem_cons_succ, List.getElem_cons_zero]
              refine wpAnyH_take (i := 14) (v := ?_) rfl (by kernel_rfl) (by kernel_rfl) (by kernel_rfl) (fun _ _ _ h => h) (Or.inl ⟨by rfl, ?_⟩) hS ?_
              rotate_left
              · intro wz hz; go_simp; try with_reducible rfl
              try simp only [Act.put, List.setIfInBounds_toArray, List.set_cons_zero, List.set_cons_succ, List.getElem_toArray, List.getElem_cons_succ, List.getElem_cons_zero]
              refine wpAnyH_take (i := 15) (v := ?_) rfl (by kernel_rfl) (by kernel_rfl) (by kernel_rfl) (fun _ _ _ h => h) (Or.inl ⟨by rfl, ?_⟩) hS ?_
              rotate_left
              · intro wz hz; go_simp; try with_reducible rfl
              try simp only [Act.put, List.setIfInBounds_toArray, List.set_cons_zero, List.set_cons_succ, List.getElem_toArray, List.getElem_cons_succ, List.getElem_cons_zero]
              refine wpAnyH_done (by kernel_rfl) ?_ _
    case' a1_5 =>
      go_simp
      refine (Own_empty _).mono ?_
      rintro e w8 ⟨rfl, b8⟩
      refine hK.out _ _ ((hk.out _ (Xf.of_below (bl_tr BC.out b8)))) (fun hSn => ?_)
      clear hK K hS
      have hS := hSn
      clear hSn
      try simp only [Act.put, List.setIfInBounds_toArray, List.set_cons_zero, List.set_cons_succ, List.getElem_toArray, List.getElem_cons_succ, List.getElem_cons_zero]
      have BC := hid (bl_tr BC.out b8)
      try have KR := hid (KR.out.stays b8)
      try have A3 := hid (A3.out.stays b8)
      clear b8
      refine wpAnyH_ready (rs := [2, 12]) (by kernel_rfl) (by simp) (AllReadyH.cons rfl (fun K hK => ?a11_2) (AllReadyH.cons rfl (fun K hK => ?a11_12) AllReadyH.nil))
      case' a11_2 =>
        go_simp
        refine alloc_then (K := K) (fun hA hb => ?_)
        have KR := hid (show Arr _ _ PAT5 [.int .i64 2, .string bx, .slice none 0 0, .int .i64 0, .slice none 0 0, .int .i64 3, .string ⟨#[]⟩, .slice none 0 0, .int .i64 1, .slice none 0 0] from ⟨hA⟩)
        have hKl := BC.out.size
        try simp only [size_alloc] at KR
        try simp only [size_alloc] at hKl
        try have A3 := hid (A3.out.stays hb)
        refine hK.out _ _ ((by first | exact hk.out _ (Xf.of_below (bl_tr BC.out hb)) | exact hk.out _ (XC.out.trans (Xf.of_below hb)))) (fun hSn => ?_)
        clear hK K hS
        have hS := hSn
        clear hSn
        try simp only [Act.put, List.setIfInBounds_toArray, List.set_cons_zero, List.set_cons_succ, List.getElem_toArray, List.getElem_cons_succ, List.getElem_cons_zero]
        try have BC := hid (bl_tr BC.out hb)
        clear hA hb
        refine wpAnyH_take (i := 3) (v := ?_) rfl (by kernel_rfl) (by kernel_rfl) (by kernel_rfl) (fun _ _ _ h => h) (Or.inl ⟨by rfl, ?_⟩) hS ?_
        rotate_left
        · intro wz hz; go_simp; try with_reducible rfl
        try simp only [Act.put, List.setIfInBounds_toArray, List.set_cons_zero, List.set_cons_succ, List.getElem_toArray, List.getElem_cons_succ, List.getElem_cons_zero]
        refine wpAnyH_ready (rs := [7, 12]) (by kernel_rfl) (by simp) (AllReadyH.cons rfl (fun K hK => ?a12_7) (AllReadyH.cons rfl (fun K hK => ?a12_12) AllReadyH.nil))
        case' a12_7 =>
          go_simp
          refine (HC.out _ _ BC.out hKl KR.out).mono ?_
          rintro e w9 ⟨⟨a9, c9, N9, g9, cb9, s9, k9, rfl, t9, gc9⟩, ⟨v9, h9⟩, x9⟩
          have XC := hid ((Xf.of_below BC.out).trans x9)
          try have HKA := hid (keepsA A3.out)
          try have A3 := hid (x9.arr A3.out (HNE.out _ hAl))
          have T9 := hid t9
          have G9 := hid gc9
          have S9 := hid h9
          clear BC KR
          refine hK.out _ _ ((hk.out _ XC.out)) (fun hSn => ?_)
          clear hK K hS
          have hS := hSn
          clear hSn
          try simp only [Act.put, List.setIfInBounds_toArray, List.set_cons_zero, List.set_cons_succ, List.getElem_toArray, List.getElem_cons_succ, List.getElem_cons_zero]
          refine wpAnyH_take (i := 8) (v := ?_) rfl (by kernel_rfl) (by kernel_rfl) (by kernel_rfl) (fun _ _ _ h => h) (Or.inl ⟨by rfl, ?_⟩) hS ?_
          rotate_left
          · intro wz hz; go_simp; try with_reducible rfl
          try simp only [Act.put, List.setIfInBounds_toArray, List.set_cons_zero, List.set_cons_succ, List.getElem_toArray, List.getElem_cons_succ, List.getElem_cons_zero]
          refine wpAnyH_take (i := 9) (v := ?_) rfl (by kernel_rfl) (by kernel_rfl) (by kernel_rfl) (fun _ _ _ h => h) (Or.inl ⟨by rfl, ?_⟩) hS ?_
          rotate_left
          · intro wz hz; go_simp; try with_reducible rfl
          try simp only [Act.put, List.setIfInBounds_toArray, List.set_cons_zero, List.set_cons_succ, List.getElem_toArray, List.getElem_cons_succ, List.getElem_cons_zero]
          refine wpAnyH_take (i := 10) (v := ?_) rfl (by kernel_rfl) (by kernel_rfl) (by kernel_rfl) (fun _ _ _ h => h) (Or.inl ⟨by rfl, ?_⟩) hS ?_
          rotate_left
          · intro wz hz; go_simp; try with_reducible rfl
          try simp only [Act.put, List.setIfInBounds_toArray, List.set_cons_zero, List.set_cons_succ, List.getElem_toArray, List.getElem_cons_succ, List.getElem_cons_zero]
          refine wpAnyH_take (i := 11) (v := ?_) rfl (by kernel_rfl) (by kernel_rfl) (by kernel_rfl) (fun _ _ _ h => h) (Or.inl ⟨by rfl, ?_⟩) hS ?_
          rotate_left
          · intro wz hz; go_simp; try with_reducible rfl
          try simp only [Act.put, List.setIfInBounds_toArray, List.set_cons_zero, List.set_cons_succ, List.getElem_toArray, List.getElem_cons_succ, List.getElem_cons_zero]
          refine wpAnyH_ready (rs := [12]) (by kernel_rfl) (by simp) (AllReadyH.cons rfl (fun K hK => ?a13_12) AllReadyH.nil)
          case' a13_12 =>
            go_simp
            refine alloc_then (K := K) (fun hA hb => ?_)
            try have KR := hid (KR.out.stays hb)
            try have A3 := hid (show Arr _ _ TY [.int .i64 0, .int .i64 0, .slice none 0 0] from ⟨hA⟩)
            try have hAl := BC.out.size
            try simp only [size_alloc] at A3
            try simp only [size_alloc] at hAl
            refine hK.out _ _ ((by first | exact hk.out _ (Xf.of_below (bl_tr BC.out hb)) | exact hk.out _ (XC.out.trans (Xf.of_below hb)))) (fun hSn => ?_)
            clear hK K hS
            have hS := hSn
            clear hSn
            try simp only [Act.put, List.setIfInBounds_toArray, List.set_cons_zero, List.set_cons_succ, List.getElem_toArray, List.getElem_cons_succ, List.getElem_cons_zero]
            try have BC := hid (bl_tr BC.out hb)
            clear hA hb
            refine wpAnyH_ready (rs := [13]) (by kernel_rfl) (by simp) (AllReadyH.cons rfl (fun K hK => ?a14_13) AllReadyH.nil)
            case' a14_13 =>
              try have a5 := A3.out.cell
              try have f5 := A3.out.frozen
              go_simp
              refine hK.out _ _ ((by first | exact hk.out _ (((XC.out.set (.inr hAl) 0 _).set (.inr hAl) 1 _).set (.inr hAl) 2 _) | exact hk.out _ (XC.out.trans (Xf.of_below (bl_alloc (Below.refl _ _) _))))) (fun hSn => ?_)
              clear hK K hS
              have hS := hSn
              clear hSn
              try simp only [Act.put, List.setIfInBounds_toArray, List.set_cons_zero, List.set_cons_succ, List.getElem_toArray, List.getElem_cons_succ, List.getElem_cons_zero]
              refine wpAnyH_take (i := 14) (v := ?_) rfl (by kernel_rfl) (by kernel_rfl) (by kernel_rfl) (fun _ _ _ h => h) (Or.inl ⟨by rfl, ?_⟩) hS ?_
              rotate_left
              · intro wz hz; go_simp; try with_reducible rfl
              try simp only [Act.put, List.setIfInBounds_toArray, List.set_cons_zero, List.set_cons_succ, List.getElem_toArray, List.getElem_cons_succ, List.getElem_cons_zero]
              refine wpAnyH_take (i := 15) (v := ?_) rfl (by kernel_rfl) (by kernel_rfl) (by kernel_rfl) (fun _ _ _ h => h) (Or.inl ⟨by rfl, ?_⟩) hS ?_
              rotate_left
              · intro wz hz; go_simp; try with_reducible rfl
              try simp only [Act.put, List.setIfInBounds_toArray, List.set_cons_zero, List.set_cons_succ, List.getElem_toArray, List.getElem_cons_succ, List.getElem_cons_zero]
              refine wpAnyH_done (by kernel_rfl) ?_ _
        case' a12_12 =>
          go_simp
          refine alloc_then (K := K) (fun hA hb => ?_)
          try have KR := hid (KR.out.stays hb)
          try have A3 := hid (show Arr _ _ TY [.int .i64 0, .int .i64 0, .slice none 0 0] from ⟨hA⟩)
          try have hAl := BC.out.size
          try simp only [size_alloc] at A3
          try simp only [size_alloc] at hAl
          refine hK.out _ _ ((by first | exact hk.out _ (Xf.of_below (bl_tr BC.out hb)) | exact hk.out _ (XC.out.trans (Xf.of_below hb)))) (fun hSn => ?_)
          clear hK K hS
          have hS := hSn
          clear hSn
          try simp only [Act.put, List.setIfInBounds_toArray, List.set_cons_zero, List.set_cons_succ, List.getElem_toArray, List.getElem_cons_succ, List.getElem_cons_zero]
          try have BC := hid (bl_tr BC.out hb)
          clear hA hb
          refine wpAnyH_ready (rs := [7]) (by kernel_rfl) (by simp) (AllReadyH.cons rfl (fun K hK => ?a15_7) AllReadyH.nil)
          case' a15_7 =>
            go_simp
            refine (HC.out _ _ BC.out hKl KR.out).mono ?_
            rintro e w9 ⟨⟨a9, c9, N9, g9, cb9, s9, k9, rfl, t9, gc9⟩, ⟨v9, h9⟩, x9⟩
            have XC := hid ((Xf.of_below BC.out).trans x9)
            try have HKA := hid (keepsA A3.out)
            try have A3 := hid (x9.arr A3.out (HNE.out _ hAl))
            have T9 := hid t9
            have G9 := hid gc9
            have S9 := hid h9
            clear BC KR
            refine hK.out _ _ ((hk.out _ XC.out)) (fun hSn => ?_)
            clear hK K hS
            have hS := hSn
            clear hSn
            try simp only [Act.put, List.setIfInBounds_toArray, List.set_cons_zero, List.set_cons_succ, List.getElem_toArray, List.getElem_cons_succ, List.getElem_cons_zero]
            refine wpAnyH_take (i := 8) (v := ?_) rfl (by kernel_rfl) (by kernel_rfl) (by kernel_rfl) (fun _ _ _ h => h) (Or.inl ⟨by rfl, ?_⟩) hS ?_
            rotate_left
            · intro wz hz; go_simp; try with_reducible rfl
            try simp only [Act.put, List.setIfInBounds_toArray, List.set_cons_zero, List.set_cons_succ, List.getElem_toArray, List.getElem_cons_succ, List.getElem_cons_zero]
            refine wpAnyH_take (i := 9) (v := ?_) rfl (by kernel_rfl) (by kernel_rfl) (by kernel_rfl) (fun _ _ _ h => h) (Or.inl ⟨by rfl, ?_⟩) hS ?_
            rotate_left
            · intro wz hz; go_simp; try with_reducible rfl
            try simp only [Act.put, List.setIfInBounds_toArray, List.set_cons_zero, List.set_cons_succ, List.getElem_toArray, List.getElem_cons_succ, List.getElem_cons_zero]
            refine wpAnyH_take (i := 10) (v := ?_) rfl (by kernel_rfl) (by kernel_rfl) (by kernel_rfl) (fun _ _ _ h => h) (Or.inl ⟨by rfl, ?_⟩) hS ?_
            rotate_left
            · intro wz hz; go_simp; try with_reducible rfl
            try simp only [Act.put, List.setIfInBounds_toArray, List.set_cons_zero, List.set_cons_succ, List.getElem_toArray, List.getElem_cons_succ, List.getElem_cons_zero]
            refine wpAnyH_take (i := 11) (v := ?_) rfl (by kernel_rfl) (by kernel_rfl) (by kernel_rfl) (fun _ _ _ h => h) (Or.inl ⟨by rfl, ?_⟩) hS ?_
            rotate_left
            · intro wz hz; go_simp; try with_reducible rfl
            try simp only [Act.put, List.setIfInBounds_toArray, List.set_cons_zero, List.set_cons_succ, List.getElem_toArray, List.getElem_cons_succ, List.getElem_cons_zero]
            refine wpAnyH_ready (rs := [13]) (by kernel_rfl) (by simp) (AllReadyH.cons rfl (fun K hK => ?a16_13) AllReadyH.nil)
            case' a16_13 =>
              try have a5 := A3.out.cell
              try have f5 := A3.out.frozen
              go_simp
              refine hK.out _ _ ((by first | exact hk.out _ (((XC.out.set (.inr hAl) 0 _).set (.inr hAl) 1 _).set (.inr hAl) 2 _) | exact hk.out _ (XC.out.trans (Xf.of_below (bl_alloc (Below.refl _ _) _))))) (fun hSn => ?_)
              clear hK K hS
              have hS := hSn
              clear hSn
              try simp only [Act.put, List.setIfInBounds_toArray, List.set_cons_zero, List.set_cons_succ, List.getElem_toArray, List.getElem_cons_succ, List.getElem_cons_zero]
              refine wpAnyH_take (i := 14) (v := ?_) rfl (by kernel_rfl) (by kernel_rfl) (by kernel_rfl) (fun _ _ _ h => h) (Or.inl ⟨by rfl, ?_⟩) hS ?_
              rotate_left
              · intro wz hz; go_simp; try with_reducible rfl
              try simp only [Act.put, List.setIfInBounds_toArray, List.set_cons_zero, List.set_cons_succ, List.getElem_toArray, List.getElem_cons_succ, List.getElem_cons_zero]
              refine wpAnyH_take (i := 15) (v := ?_) rfl (by kernel_rfl) (by kernel_rfl) (by kernel_rfl) (fun _ _ _ h => h) (Or.inl ⟨by rfl, ?_⟩) hS ?_
              rotate_left
              · intro wz hz; go_simp; try with_reducible rfl
              try simp only [Act.put, List.setIfInBounds_toArray, List.set_cons_zero, List.set_cons_succ, List.getElem_toArray, List.getElem_cons_succ, List.getElem_cons_zero]
              refine wpAnyH_done (by kernel_rfl) ?_ _
      case' a11_12 =>
        go_simp
        refine alloc_then (K := K) (fun hA hb => ?_)
        try have KR := hid (KR.out.stays hb)
        try have A3 := hid (show Arr _ _ TY [.int .i64 0, .int .i64 0, .slice none 0 0] from ⟨hA⟩)
        try have hAl := BC.out.size
        try simp only [size_alloc] at A3
        try simp only [size_alloc] at hAl
        refine hK.out _ _ ((by first | exact hk.out _ (Xf.of_below (bl_tr BC.out hb)) | exact hk.out _ (XC.out.trans (Xf.of_below hb)))) (fun hSn => ?_)
        clear hK K hS
        have hS := hSn
        clear hSn
        try simp only [Act.put, List.setIfInBounds_toArray, List.set_cons_zero, List.set_cons_succ, List.getElem_toArray, List.getElem_cons_succ, List.getElem_cons_zero]
        try have BC := hid (bl_tr BC.out hb)
        clear hA hb
        refine wpAnyH_ready (rs := [2]) (by kernel_rfl) (by simp) (AllReadyH.cons rfl (fun K hK => ?a17_2) AllReadyH.nil)
        case' a17_2 =>
          go_simp
          refine alloc_then (K := K) (fun hA hb => ?_)
          have KR := hid (show Arr _ _ PAT5 [.int .i64 2, .string bx, .slice none 0 0, .int .i64 0, .slice none 0 0, .int .i64 3, .string ⟨#[]⟩, .slice none 0 0, .int .i64 1, .slice none 0 0] from ⟨hA⟩)
          have hKl := BC.out.size
          try simp only [size_alloc] at KR
          try simp only [size_alloc] at hKl
          try have A3 := hid (A3.out.stays hb)
          refine hK.out _ _ ((by first | exact hk.out _ (Xf.of_below (bl_tr BC.out hb)) | exact hk.out _ (XC.out.trans (Xf.of_below hb)))) (fun hSn => ?_)
          clear hK K hS
          have hS := hSn
          clear hSn
          try simp only [Act.put, List.setIfInBounds_toArray, List.set_cons_zero, List.set_cons_succ, List.getElem_toArray, List.getElem_cons_succ, List.getElem_cons_zero]
          try have BC := hid (bl_tr BC.out hb)
          clear hA hb
          refine wpAnyH_take (i := 3) (v := ?_) rfl (by kernel_rfl) (by kernel_rfl) (by kernel_rfl) (fun _ _ _ h => h) (Or.inl ⟨by rfl, ?_⟩) hS ?_
          rotate_left
          · intro wz hz; go_simp; try with_reducible rfl
          try simp only [Act.put, List.setIfInBounds_toArray, List.set_cons_zero, List.set_cons_succ, List.getElem_toArray, List.getElem_cons_succ, List.getElem_cons_zero]
          refine wpAnyH_ready (rs := [7]) (by kernel_rfl) (by simp) (AllReadyH.cons rfl (fun K hK => ?a18_7) AllReadyH.nil)
          case' a18_7 =>
            go_simp
            refine (HC.out _ _ BC.out hKl KR.out).mono ?_
            rintro e w9 ⟨⟨a9, c9, N9, g9, cb9, s9, k9, rfl, t9, gc9⟩, ⟨v9, h9⟩, x9⟩
            have XC := hid ((Xf.of_below BC.out).trans x9)
            try have HKA := hid (keepsA A3.out)
            try have A3 := hid (x9.arr A3.out (HNE.out _ hAl))
            have T9 := hid t9
            have G9 := hid gc9
            have S9 := hid h9
            clear BC KR
            refine hK.out _ _ ((hk.out _ XC.out)) (fun hSn => ?_)
            clear hK K hS
            have hS := hSn
            clear hSn
            try simp only [Act.put, List.setIfInBounds_toArray, List.set_cons_zero, List.set_cons_succ, List.getElem_toArray, List.getElem_cons_succ, List.getElem_cons_zero]
            refine wpAnyH_take (i := 8) (v := ?_) rfl (by kernel_rfl) (by kernel_rfl) (by kernel_rfl) (fun _ _ _ h => h) (Or.inl ⟨by rfl, ?_⟩) hS ?_
            rotate_left
            · intro wz hz; go_simp; try with_reducible rfl
            try simp only [Act.put, List.setIfInBounds_toArray, List.set_cons_zero, List.set_cons_succ, List.getElem_toArray, List.getElem_cons_succ, List.getElem_cons_zero]
            refine wpAnyH_take (i := 9) (v := ?_) rfl (by kernel_rfl) (by kernel_rfl) (by kernel_rfl) (fun _ _ _ h => h) (Or.inl ⟨by rfl, ?_⟩) hS ?_
            rotate_left
            · intro wz hz; go_simp; try with_reducible rfl
            try simp only [Act.put, List.setIfInBounds_toArray, List.set_cons_zero, List.set_cons_succ, List.getElem_toArray, List.getElem_cons_succ, List.getElem_cons_zero]
            refine wpAnyH_take (i := 10) (v := ?_) rfl (by kernel_rfl) (by kernel_rfl) (by kernel_rfl) (fun _ _ _ h => h) (Or.inl ⟨by rfl, ?_⟩) hS ?_
            rotate_left
            · intro wz hz; go_simp; try with_reducible rfl
            try simp only [Act.put, List.setIfInBounds_toArray, List.set_cons_zero, List.set_cons_succ, List.getElem_toArray, List.getElem_cons_succ, List.getElem_cons_zero]
            refine wpAnyH_take (i := 11) (v := ?_) rfl (by kernel_rfl) (by kernel_rfl) (by kernel_rfl) (fun _ _ _ h => h) (Or.inl ⟨by rfl, ?_⟩) hS ?_
            rotate_left
            · intro wz hz; go_simp; try with_reducible rfl
            try simp only [Act.put, List.setIfInBounds_toArray, List.set_cons_zero, List.set_cons_succ, List.getElem_toArray, List.getElem_cons_succ, List.getElem_cons_zero]
            refine wpAnyH_ready (rs := [13]) (by kernel_rfl) (by simp) (AllReadyH.cons rfl (fun K hK => ?a19_13) AllReadyH.nil)
            case' a19_13 =>
              try have a5 := A3.out.cell
              try have f5 := A3.out.frozen
              go_simp
              refine hK.out _ _ ((by first | exact hk.out _ (((XC.out.set (.inr hAl) 0 _).set (.inr hAl) 1 _).set (.inr hAl) 2 _) | exact hk.out _ (XC.out.trans (Xf.of_below (bl_alloc (Below.refl _ _) _))))) (fun hSn => ?_)
              clear hK K hS
              have hS := hSn
              clear hSn
              try simp only [Act.put, List.setIfInBounds_toArray, List.set_cons_zero, List.set_cons_succ, List.getElem_toArray, List.getElem_cons_succ, List.getElem_cons_zero]
              refine wpAnyH_take (i := 14) (v := ?_) rfl (by kernel_rfl) (by kernel_rfl) (by kernel_rfl) (fun _ _ _ h => h) (Or.inl ⟨by rfl, ?_⟩) hS ?_
              rotate_left
              · intro wz hz; go_simp; try with_reducible rfl
              try simp only [Act.put, List.setIfInBounds_toArray, List.set_cons_zero, List.set_cons_succ, List.getElem_toArray, List.getElem_cons_succ, List.getElem_cons_zero]
              refine wpAnyH_take (i := 15) (v := ?_) rfl (by kernel_rfl) (by kernel_rfl) (by kernel_rfl) (fun _ _ _ h => h) (Or.inl ⟨by rfl, ?_⟩) hS ?_
              rotate_left
              · intro wz hz; go_simp; try with_reducible rfl
              try simp only [Act.put, List.setIfInBounds_toArray, List.set_cons_zero, List.set_cons_succ, List.getElem_toArray, List.getElem_cons_succ, List.getElem_cons_zero]
              refine wpAnyH_done (by kernel_rfl) ?_ _
    case' a1_12 =>
      go_simp
      refine alloc_then (K := K) (fun hA hb => ?_)
      try have KR := hid (KR.out.stays hb)
      try have A3 := hid (show Arr _ _ TY [.int .i64 0, .int .i64 0, .slice none 0 0] from ⟨hA⟩)
      try have hAl := BC.out.size
      try simp only [size_alloc] at A3
      try simp only [size_alloc] at hAl
      refine hK.out _ _ ((by first | exact hk.out _ (Xf.of_below (bl_tr BC.out hb)) | exact hk.out _ (XC.out.trans (Xf.of_below hb)))) (fun hSn => ?_)
      clear hK K hS
      have hS := hSn
      clear hSn
      try simp only [Act.put, List.setIfInBounds_toArray, List.set_cons_zero, List.set_cons_succ, List.getElem_toArray, List.getElem_cons_succ, List.getElem_cons_zero]
      try have BC := hid (bl_tr BC.out hb)
      clear hA hb
      refine wpAnyH_ready (rs := [2, 5]) (by kernel_rfl) (by simp) (AllReadyH.cons rfl (fun K hK => ?a20_2) (AllReadyH.cons rfl (fun K hK => ?a20_5) AllReadyH.nil))
      case' a20_2 =>
        go_simp
        refine alloc_then (K := K) (fun hA hb => ?_)
        have KR := hid (show Arr _ _ PAT5 [.int .i64 2, .string bx, .slice none 0 0, .int .i64 0, .slice none 0 0, .int .i64 3, .string ⟨#[]⟩, .slice none 0 0, .int .i64 1, .slice none 0 0] from ⟨hA⟩)
        have hKl := BC.out.size
        try simp only [size_alloc] at KR
        try simp only [size_alloc] at hKl
        try have A3 := hid (A3.out.stays hb)
        refine hK.out _ _ ((by first | exact hk.out _ (Xf.of_below (bl_tr BC.out hb)) | exact hk.out _ (XC.out.trans (Xf.of_below hb)))) (fun hSn => ?_)
        clear hK K hS
        have hS := hSn
        clear hSn
        try simp only [Act.put, List.setIfInBounds_toArray, List.set_cons_zero, List.set_cons_succ, List.getElem_toArray, List.getElem_cons_succ, List.getElem_cons_zero]
        try have BC := hid (bl_tr BC.out hb)
        clear hA hb
        refine wpAnyH_take (i := 3) (v := ?_) rfl (by kernel_rfl) (by kernel_rfl) (by kernel_rfl) (fun _ _ _ h => h) (Or.inl ⟨by rfl, ?_⟩) hS ?_
        rotate_left
        · intro wz hz; go_simp; try with_reducible rfl
        try simp only [Act.put, List.setIfInBounds_toArray, List.set_cons_zero, List.set_cons_succ, List.getElem_toArray, List.getElem_cons_succ, List.getElem_cons_zero]
        refine wpAnyH_ready (rs := [5]) (by kernel_rfl) (by simp) (AllReadyH.cons rfl (fun K hK => ?a21_5) AllReadyH.nil)
        case' a21_5 =>
          go_simp
          refine (Own_empty _).mono ?_
          rintro e w8 ⟨rfl, b8⟩
          refine hK.out _ _ ((hk.out _ (Xf.of_below (bl_tr BC.out b8)))) (fun hSn => ?_)
          clear hK K hS
          have hS := hSn
          clear hSn
          try simp only [Act.put, List.setIfInBounds_toArray, List.set_cons_zero, List.set_cons_succ, List.getElem_toArray, List.getElem_cons_succ, List.getElem_cons_zero]
          have BC := hid (bl_tr BC.out b8)
          try have KR := hid (KR.out.stays b8)
          try have A3 := hid (A3.out.stays b8)
          clear b8
          refine wpAnyH_ready (rs := [7]) (by kernel_rfl) (by simp) (AllReadyH.cons rfl (fun K hK => ?a22_7) AllReadyH.nil)
          case' a22_7 =>
            go_simp
            refine (HC.out _ _ BC.out hKl KR.out).mono ?_
            rintro e w9 ⟨⟨a9, c9, N9, g9, cb9, s9, k9, rfl, t9, gc9⟩, ⟨v9, h9⟩, x9⟩
            have XC := hid ((Xf.of_below BC.out).trans x9)
            try have HKA := hid (keepsA A3.out)
            try have A3 := hid (x9.arr A3.out (HNE.out _ hAl))
            have T9 := hid t9
            have G9 := hid gc9
            have S9 := hid h9
            clear BC KR
            refine hK.out _ _ ((hk.out _ XC.out)) (fun hSn => ?_)
            clear hK K hS
            have hS := hSn
            clear hSn
            try simp only [Act.put, List.setIfInBounds_toArray, List.set_cons_zero, List.set_cons_succ, List.getElem_toArray, List.getElem_cons_succ, List.getElem_cons_zero]
            refine wpAnyH_take (i := 8) (v := ?_) rfl (by kernel_rfl) (by kernel_rfl) (by kernel_rfl) (fun _ _ _ h => h) (Or.inl ⟨by rfl, ?_⟩) hS ?_
            rotate_left
            · intro wz hz; go_simp; try with_reducible rfl
            try simp only [Act.put, List.setIfInBounds_toArray, List.set_cons_zero, List.set_cons_succ, List.getElem_toArray, List.getElem_cons_succ, List.getElem_cons_zero]
            refine wpAnyH_take (i := 9) (v := ?_) rfl (by kernel_rfl) (by kernel_rfl) (by kernel_rfl) (fun _ _ _ h => h) (Or.inl ⟨by rfl, ?_⟩) hS ?_
            rotate_left
            · intro wz hz; go_simp; try with_reducible rfl
            try simp only [Act.put, List.setIfInBounds_toArray, List.set_cons_zero, List.set_cons_succ, List.getElem_toArray, List.getElem_cons_succ, List.getElem_cons_zero]
            refine wpAnyH_take (i := 10) (v := ?_) rfl (by kernel_rfl) (by kernel_rfl) (by kernel_rfl) (fun _ _ _ h => h) (Or.inl ⟨by rfl, ?_⟩) hS ?_
            rotate_left
            · intro wz hz; go_simp; try with_reducible rfl
            try simp only [Act.put, List.setIfInBounds_toArray, List.set_cons_zero, List.set_cons_succ, List.getElem_toArray, List.getElem_cons_succ, List.getElem_cons_zero]
            refine wpAnyH_take (i := 11) (v := ?_) rfl (by kernel_rfl) (by kernel_rfl) (by kernel_rfl) (fun _ _ _ h => h) (Or.inl ⟨by rfl, ?_⟩) hS ?_
            rotate_left
            · intro wz hz; go_simp; try with_reducible rfl
            try simp only [Act.put, List.setIfInBounds_toArray, List.set_cons_zero, List.set_cons_succ, List.getElem_toArray, List.getElem_cons_succ, List.getElem_cons_zero]
            refine wpAnyH_ready (rs := [13]) (by kernel_rfl) (by simp) (AllReadyH.cons rfl (fun K hK => ?a23_13) AllReadyH.nil)
            case' a23_13 =>
              try have a5 := A3.out.cell
              try have f5 := A3.out.frozen
              go_simp
              refine hK.out _ _ ((by first | exact hk.out _ (((XC.out.set (.inr hAl) 0 _).set (.inr hAl) 1 _).set (.inr hAl) 2 _) | exact hk.out _ (XC.out.trans (Xf.of_below (bl_alloc (Below.refl _ _) _))))) (fun hSn => ?_)
              clear hK K hS
              have hS := hSn
              clear hSn
              try simp only [Act.put, List.setIfInBounds_toArray, List.set_cons_zero, List.set_cons_succ, List.getElem_toArray, List.getElem_cons_succ, List.getElem_cons_zero]
              refine wpAnyH_take (i := 14) (v := ?_) rfl (by kernel_rfl) (by kernel_rfl) (by kernel_rfl) (fun _ _ _ h => h) (Or.inl ⟨by rfl, ?_⟩) hS ?_
              rotate_left
              · intro wz hz; go_simp; try with_reducible rfl
              try simp only [Act.put, List.setIfInBounds_toArray, List.set_cons_zero, List.set_cons_succ, List.getElem_toArray, List.getElem_cons_succ, List.getElem_cons_zero]
              refine wpAnyH_take (i := 15) (v := ?_) rfl (by kernel_rfl) (by kernel_rfl) (by kernel_rfl) (fun _ _ _ h => h) (Or.inl ⟨by rfl, ?_⟩) hS ?_
              rotate_left
              · intro wz hz; go_simp; try with_reducible rfl
              try simp only [Act.put, List.setIfInBounds_toArray, List.set_cons_zero, List.set_cons_succ, List.getElem_toArray, List.getElem_cons_succ, List.getElem_cons_zero]
              refine wpAnyH_done (by kernel_rfl) ?_ _
      case' a20_5 =>
        go_simp
        refine (Own_empty _).mono ?_
        rintro e w8 ⟨rfl, b8⟩
        refine hK.out _ _ ((hk.out _ (Xf.of_below (bl_tr BC.out b8)))) (fun hSn => ?_)
        clear hK K hS
        have hS := hSn
        clear hSn
        try simp only [Act.put, List.setIfInBounds_toArray, List.set_cons_zero, List.set_cons_succ, List.getElem_toArray, List.getElem_cons_succ, List.getElem_cons_zero]
        have BC := hid (bl_tr BC.out b8)
        try have KR := hid (KR.out.stays b8)
        try have A3 := hid (A3.out.stays b8)
        clear b8
        refine wpAnyH_ready (rs := [2]) (by kernel_rfl) (by simp) (AllReadyH.cons rfl (fun K hK => ?a24_2) AllReadyH.nil)
        case' a24_2 =>
          go_simp
          refine alloc_then (K := K) (fun hA hb => ?_)
          have KR := hid (show Arr _ _ PAT5 [.int .i64 2, .string bx, .slice none 0 0, .int .i64 0, .slice none 0 0, .int .i64 3, .string ⟨#[]⟩, .slice none 0 0, .int .i64 1, .slice none 0 0] from ⟨hA⟩)
          have hKl := BC.out.size
          try simp only [size_alloc] at KR
          try simp only [size_alloc] at hKl
          try have A3 := hid (A3.out.stays hb)
          refine hK.out _ _ ((by first | exact hk.out _ (Xf.of_below (bl_tr BC.out hb)) | exact hk.out _ (XC.out.trans (Xf.of_below hb)))) (fun hSn => ?_)
          clear hK K hS
          have hS := hSn
          clear hSn
          try simp only [Act.put, List.setIfInBounds_toArray, List.set_cons_zero, List.set_cons_succ, List.getElem_toArray, List.getElem_cons_succ, List.getElem_cons_zero]
          try have BC := hid (bl_tr BC.out hb)
          clear hA hb
          refine wpAnyH_take (i := 3) (v := ?_) rfl (by kernel_rfl) (by kernel_rfl) (by kernel_rfl) (fun _ _ _ h => h) (Or.inl ⟨by rfl, ?_⟩) hS ?_
          rotate_left
          · intro wz hz; go_simp; try with_reducible rfl
          try simp only [Act.put, List.setIfInBounds_toArray, List.set_cons_zero, List.set_cons_succ, List.getElem_toArray, List.getElem_cons_succ, List.getElem_cons_zero]
          refine wpAnyH_ready (rs := [7]) (by kernel_rfl) (by simp) (AllReadyH.cons rfl (fun K hK => ?a25_7) AllReadyH.nil)
          case' a25_7 =>
            go_simp
            refine (HC.out _ _ BC.out hKl KR.out).mono ?_
            rintro e w9 ⟨⟨a9, c9, N9, g9, cb9, s9, k9, rfl, t9, gc9⟩, ⟨v9, h9⟩, x9⟩
            have XC := hid ((Xf.of_below BC.out).trans x9)
            try have HKA := hid (keepsA A3.out)
            try have A3 := hid (x9.arr A3.out (HNE.out _ hAl))
            have T9 := hid t9
            have G9 := hid gc9
            have S9 := hid h9
            clear BC KR
            refine hK.out _ _ ((hk.out _ XC.out)) (fun hSn => ?_)
            clear hK K hS
            have hS := hSn
            clear hSn
            try simp only [Act.put, List.setIfInBounds_toArray, List.set_cons_zero, List.set_cons_succ, List.getElem_toArray, List.getElem_cons_succ, List.getElem_cons_zero]
            refine wpAnyH_take (i := 8) (v := ?_) rfl (by kernel_rfl) (by kernel_rfl) (by kernel_rfl) (fun _ _ _ h => h) (Or.inl ⟨by rfl, ?_⟩) hS ?_
            rotate_left
            · intro wz hz; go_simp; try with_reducible rfl
            try simp only [Act.put, List.setIfInBounds_toArray, List.set_cons_zero, List.set_cons_succ, List.getElem_toArray, List.getElem_cons_succ, List.getElem_cons_zero]
            refine wpAnyH_take (i := 9) (v := ?_) rfl (by kernel_rfl) (by kernel_rfl) (by kernel_rfl) (fun _ _ _ h => h) (Or.inl ⟨by rfl, ?_⟩) hS ?_
            rotate_left
            · intro wz hz; go_simp; try with_reducible rfl
            try simp only [Act.put, List.setIfInBounds_toArray, List.set_cons_zero, List.set_cons_succ, List.getElem_toArray, List.getElem_cons_succ, List.getElem_cons_zero]
            refine wpAnyH_take (i := 10) (v := ?_) rfl (by kernel_rfl) (by kernel_rfl) (by kernel_rfl) (fun _ _ _ h => h) (Or.inl ⟨by rfl, ?_⟩) hS ?_
            rotate_left
            · intro wz hz; go_simp; try with_reducible rfl
            try simp only [Act.put, List.setIfInBounds_toArray, List.set_cons_zero, List.set_cons_succ, List.getElem_toArray, List.getElem_cons_succ, List.getElem_cons_zero]
            refine wpAnyH_take (i := 11) (v := ?_) rfl (by kernel_rfl) (by kernel_rfl) (by kernel_rfl) (fun _ _ _ h => h) (Or.inl ⟨by rfl, ?_⟩) hS ?_
            rotate_left
            · intro wz hz; go_simp; try with_reducible rfl
            try simp only [Act.put, List.setIfInBounds_toArray, List.set_cons_zero, List.set_cons_succ, List.getElem_toArray, List.getElem_cons_succ, List.getElem_cons_zero]
            refine wpAnyH_ready (rs := [13]) (by kernel_rfl) (by simp) (AllReadyH.cons rfl (fun K hK => ?a26_13) AllReadyH.nil)
            case' a26_13 =>
              try have a5 := A3.out.cell
              try have f5 := A3.out.frozen
              go_simp
              refine hK.out _ _ ((by first | exact hk.out _ (((XC.out.set (.inr hAl) 0 _).set (.inr hAl) 1 _).set (.inr hAl) 2 _) | exact hk.out _ (XC.out.trans (Xf.of_below (bl_alloc (Below.refl _ _) _))))) (fun hSn => ?_)
              clear hK K hS
              have hS := hSn
              clear hSn
              try simp only [Act.put, List.setIfInBounds_toArray, List.set_cons_zero, List.set_cons_succ, List.getElem_toArray, List.getElem_cons_succ, List.getElem_cons_zero]
              refine wpAnyH_take (i := 14) (v := ?_) rfl (by kernel_rfl) (by kernel_rfl) (by kernel_rfl) (fun _ _ _ h => h) (Or.inl ⟨by rfl, ?_⟩) hS ?_
              rotate_left
              · intro wz hz; go_simp; try with_reducible rfl
              try simp only [Act.put, List.setIfInBounds_toArray, List.set_cons_zero, List.set_cons_succ, List.getElem_toArray, List.getElem_cons_succ, List.getElem_cons_zero]
              refine wpAnyH_take (i := 15) (v := ?_) rfl (by kernel_rfl) (by kernel_rfl) (by kernel_rfl) (fun _ _ _ h => h) (Or.inl ⟨by rfl, ?_⟩) hS ?_
              rotate_left
              · intro wz hz; go_simp; try with_reducible rfl
              try simp only [Act.put, List.setIfInBounds_toArray, List.set_cons_zero, List.set_cons_succ, List.getElem_toArray, List.getElem_cons_succ, List.getElem_cons_zero]
              refine wpAnyH_done (by kernel_rfl) ?_ _
    all_goals first
      | (
        have r5 := ((A3.out.set 0 (.int .i64 5)).set 1 (.int .i64 0)).set 2 (.slice a9 2 c9)
        have gl : g9 < w9.heap.size := World.block_lt_of_cell? _ _ (G9.out 0 _ rfl)
        have ca := A3.out.cell 0
        have hXF := hid (((XC.out.set (.inr hAl) 0 (.int .i64 5)).set (.inr hAl) 1 (.int .i64 0)).set (.inr hAl) 2 (.slice a9 2 c9))
        have hS5 := hid (S9.out.set3 A3.out (.int .i64 5) (.int .i64 0) (.slice a9 2 c9))
        have R5 := hid r5
        have HT := hid (T9.out.move (((HKA.out w9 0 (.int .i64 5)).trans (HKA.out _ 1 (.int .i64 0))).trans (HKA.out _ 2 (.slice a9 2 c9))) (K' := Any) (fun _ _ => trivial))
        have HG := hid (cells_off G9.out (sA3 := A3.out) (by intro s h; cases h) (.int .i64 5) (.int .i64 0) (.slice a9 2 c9))
        have HAL := hid hAl
        clear r5 gl ca hS hAl
        go_wp2
        go_meet
        exact ⟨_, a9, c9, N9, g9, cb9, s9, k9, v9, rfl, rfl, rfl, R5.out, HT.out, HG.out.1, HG.out.2, hS5.out, hk.out _ hXF.out, Nat.lt_of_lt_of_le HWD.out HAL.out, HXB.out _ hXF.out⟩)
      | (
        have hb := bl_alloc (Below.refl w9.heap.size w9) (.cells #[.int .i64 5, .int .i64 0, .slice a9 2 c9] TY)
        have hXF := hid (XC.out.trans (Xf.of_below hb))
        have R5 : Hid (Arr (w9.alloc (.cells #[.int .i64 5, .int .i64 0, .slice a9 2 c9] TY)) w9.heap.size TY [.int .i64 5, .int .i64 0, .slice a9 2 c9]) := hid ⟨heap_alloc_at _ _⟩
        have hS5 := hid (S9.out.stays hb)
        have HT := hid (T9.out.move (Keeps.of_below hb) (K' := Any) (fun _ _ => trivial))
        have gl : g9 < w9.heap.size := World.block_lt_of_cell? _ _ (G9.out 0 _ rfl)
        have HG : Hid (Cells (w9.alloc (.cells #[.int .i64 5, .int .i64 0, .slice a9 2 c9] TY)) g9 0 [.string bx, .int .i64 7, .int .i64 0, .slice s9 0 k9] ∧ g9 < (w9.alloc (.cells #[.int .i64 5, .int .i64 0, .slice a9 2 c9] TY)).heap.size) := hid ⟨fun j u hu => (hb.cell gl).trans (G9.out j u hu), Nat.lt_of_lt_of_le gl hb.size⟩
        have HAL := hid XC.out.size
        clear hb gl hS
        go_wp2
        go_meet
        exact ⟨_, a9, c9, N9, g9, cb9, s9, k9, v9, rfl, rfl, rfl, R5.out, HT.out, HG.out.1, HG.out.2, hS5.out, hk.out _ hXF.out, Nat.lt_of_lt_of_le HWD.out HAL.out, HXB.out _ hXF.out⟩)
  case rest =>
    obtain ⟨A, a9, c9, N9, g9, cb9, s9, k9, v9, rfl, rfl, rfl, hA, hT, hG, hgl, hS, hX, hAl, hB⟩ := hcut
    obtain ⟨wq, rfl⟩ : ∃ z, z = wc := ⟨wc, rfl⟩
    have HA := hid hA
    have HT := hid hT
    have HG := hid hG
    have HGL := hid hgl
    have HS := hid hS
    have HX := hid hX
    have HB := hid hB
    have s4 : wq.drew.cell? ⟨w1.heap.size, 0, none⟩ = some (.int .i64 2) ∧ wq.drew.cell? ⟨w1.heap.size, 1, none⟩ = some (.string bx) ∧ wq.drew.cell? ⟨w1.heap.size, 2, none⟩ = some (.slice none 0 0) ∧ wq.drew.cell? ⟨w1.heap.size, 3, none⟩ = some (.int .i64 0) ∧ wq.drew.cell? ⟨w1.heap.size, 4, none⟩ = some (.slice none 0 0) := hX
    have HKX : Hid (∀ wz, Below wq.drew.heap.size wq.drew wz → (wz.cell? ⟨w1.heap.size, 0, none⟩ = some (.int .i64 2) ∧ wz.cell? ⟨w1.heap.size, 1, none⟩ = some (.string bx) ∧ wz.cell? ⟨w1.heap.size, 2, none⟩ = some (.slice none 0 0) ∧ wz.cell? ⟨w1.heap.size, 3, none⟩ = some (.int .i64 0) ∧ wz.cell? ⟨w1.heap.size, 4, none⟩ = some (.slice none 0 0))) := hid (fun wz hz => by
      have e := hz.block w1.heap.size (World.block_lt_of_cell? _ _ s4.1)
      exact ⟨(World.cell?_of_block (w := wq.drew) e).trans s4.1, (World.cell?_of_block (w := wq.drew) e).trans s4.2.1, (World.cell?_of_block (w := wq.drew) e).trans s4.2.2.1, (World.cell?_of_block (w := wq.drew) e).trans s4.2.2.2.1, (World.cell?_of_block (w := wq.drew) e).trans s4.2.2.2.2⟩)
    have hk4 : Hid (∀ wz, Below wq.drew.heap.size wq.drew wz → (wz.cell? ⟨w1.heap.size, 0, none⟩ = some (.int .i64 2) ∧ wz.cell? ⟨w1.heap.size, 1, none⟩ = some (.string bx) ∧ wz.cell? ⟨w1.heap.size, 2, none⟩ = some (.slice none 0 0) ∧ wz.cell? ⟨w1.heap.size, 3, none⟩ = some (.int .i64 0) ∧ wz.cell? ⟨w1.heap.size, 4, none⟩ = some (.slice none 0 0))) := HKX
    have HC2 : Hid (∀ wz K, Arr wz K PAT5 [.int .i64 2, .string bx, .slice none 0 0, .int .i64 0, .slice none 0 0, .int .i64 2, .string bx, .slice none 0 0, .int .i64 0, .slice none 0 0] → Calls Tryz.prog 13 #[.agg #[.int .i64 7, .string ⟨#[]⟩, .slice none 0 0, .int .i64 0, .slice (some ⟨K, 0, none⟩) 2 2], nilEnv, .pointer (some ⟨w.heap.size + 1, 0, none⟩)] wz fun e w' => e = .returned (.tuple #[.agg #[.int .i64 0, .int .i64 0, .slice none 0 0], .slice none 0 0, .int .i64 20]) ∧ Below wz.heap.size wz w') := hid (fun wz K hA => Check_two wz K _ (leafA2 hA).1 (leafA2 hA).2)
    have BC : Hid (Below wq.drew.heap.size wq.drew wq.drew) := hid (Below.refl _ _)
    have HBD : Hid (Below wq.heap.size wq wq.drew) := hid (Below.refl _ _).drew
    clear hA hT hG hgl hS hX hB HC HNE hk HWD HXB XS s3 HKX
    go_wp2
    go_cut [8] from 26 to 37 (fun u8 wx => u8 = .int .i64 20 ∧ Below wq.heap.size wq wx)
    case first =>
      refine wp_region_held_drew (S := fun wz => wz.cell? ⟨w1.heap.size, 0, none⟩ = some (.int .i64 2) ∧ wz.cell? ⟨w1.heap.size, 1, none⟩ = some (.string bx) ∧ wz.cell? ⟨w1.heap.size, 2, none⟩ = some (.slice none 0 0) ∧ wz.cell? ⟨w1.heap.size, 3, none⟩ = some (.int .i64 0) ∧ wz.cell? ⟨w1.heap.size, 4, none⟩ = some (.slice none 0 0)) (by kernel_rfl) (s4) (fun hS => ?_)
      generalize wq.drew = wd at hS hk4 s4 BC HBD ⊢
      refine wpAnyH_take (i := 0) (v := ?_) rfl (by kernel_rfl) (by kernel_rfl) (by kernel_rfl) (fun _ _ _ h => h) (Or.inl ⟨by rfl, ?_⟩) hS ?_
      rotate_left
      · intro wz hz; obtain ⟨yy0, yy1, yy2, yy3, yy4⟩ := hz; go_simp; try with_reducible rfl
      try simp only [Act.put, List.setIfInBounds_toArray, List.set_cons_zero, List.set_cons_succ, List.getElem_toArray, List.getElem_cons_succ, List.getElem_cons_zero]
      refine wpAnyH_take (i := 1) (v := ?_) rfl (by kernel_rfl) (by kernel_rfl) (by kernel_rfl) (fun _ _ _ h => h) (Or.inl ⟨by rfl, ?_⟩) hS ?_
      rotate_left
      · intro wz hz; obtain ⟨yy0, yy1, yy2, yy3, yy4⟩ := hz; go_simp; try with_reducible rfl
      try simp only [Act.put, List.setIfInBounds_toArray, List.set_cons_zero, List.set_cons_succ, List.getElem_toArray, List.getElem_cons_succ, List.getElem_cons_zero]
      refine wpAnyH_take (i := 4) (v := ?_) rfl (by kernel_rfl) (by kernel_rfl) (by kernel_rfl) (fun _ _ _ h => h) (Or.inl ⟨by rfl, ?_⟩) hS ?_
      rotate_left
      · intro wz hz; go_simp; try with_reducible rfl
      try simp only [Act.put, List.setIfInBounds_toArray, List.set_cons_zero, List.set_cons_succ, List.getElem_toArray, List.getElem_cons_succ, List.getElem_cons_zero]
      refine wpAnyH_take (i := 6) (v := ?_) rfl (by kernel_rfl) (by kernel_rfl) (by kernel_rfl) (fun _ _ _ h => h) (Or.inl ⟨by rfl, ?_⟩) hS ?_
      rotate_left
      · intro wz hz; go_simp; try with_reducible rfl
      try simp only [Act.put, List.setIfInBounds_toArray, List.set_cons_zero, List.set_cons_succ, List.getElem_toArray, List.getElem_cons_succ, List.getElem_cons_zero]
      refine wpAnyH_ready (rs := [2, 5, 12]) (by kernel_rfl) (by simp) (AllReadyH.cons rfl (fun K hK => ?a27_2) (AllReadyH.cons rfl (fun K hK => ?a27_5) (AllReadyH.cons rfl (fun K hK => ?a27_12) AllReadyH.nil)))
      case' a27_2 =>
        go_simp
        refine alloc_then (K := K) (fun hA hb => ?_)
        have KR := hid (show Arr _ _ PAT5 [.int .i64 2, .string bx, .slice none 0 0, .int .i64 0, .slice none 0 0, .int .i64 2, .string bx, .slice none 0 0, .int .i64 0, .slice none 0 0] from ⟨hA⟩)
        try simp only [size_alloc] at KR
        try have A3 := hid (A3.out.stays hb)
        refine hK.out _ _ ((hk4.out _ (bl_tr BC.out hb))) (fun hSn => ?_)
        clear hK K hS
        have hS := hSn
        clear hSn
        try simp only [Act.put, List.setIfInBounds_toArray, List.set_cons_zero, List.set_cons_succ, List.getElem_toArray, List.getElem_cons_succ, List.getElem_cons_zero]
        have BC := hid (bl_tr BC.out hb)
        clear hA hb
        refine wpAnyH_take (i := 3) (v := ?_) rfl (by kernel_rfl) (by kernel_rfl) (by kernel_rfl) (fun _ _ _ h => h) (Or.inl ⟨by rfl, ?_⟩) hS ?_
        rotate_left
        · intro wz hz; go_simp; try with_reducible rfl
        try simp only [Act.put, List.setIfInBounds_toArray, List.set_cons_zero, List.set_cons_succ, List.getElem_toArray, List.getElem_cons_succ, List.getElem_cons_zero]
        refine wpAnyH_ready (rs := [5, 12]) (by kernel_rfl) (by simp) (AllReadyH.cons rfl (fun K hK => ?a28_5) (AllReadyH.cons rfl (fun K hK => ?a28_12) AllReadyH.nil))
        case' a28_5 =>
          go_simp
          refine (Own_empty _).mono ?_
          rintro e w8 ⟨rfl, b8⟩
          refine hK.out _ _ ((hk4.out _ (bl_tr BC.out b8))) (fun hSn => ?_)
          clear hK K hS
          have hS := hSn
          clear hSn
          try simp only [Act.put, List.setIfInBounds_toArray, List.set_cons_zero, List.set_cons_succ, List.getElem_toArray, List.getElem_cons_succ, List.getElem_cons_zero]
          have BC := hid (bl_tr BC.out b8)
          try have KR := hid (KR.out.stays b8)
          try have A3 := hid (A3.out.stays b8)
          clear b8
          refine wpAnyH_ready (rs := [7, 12]) (by kernel_rfl) (by simp) (AllReadyH.cons rfl (fun K hK => ?a29_7) (AllReadyH.cons rfl (fun K hK => ?a29_12) AllReadyH.nil))
          case' a29_7 =>
            go_simp
            refine (HC2.out _ _ KR.out).mono ?_
            rintro e w9 ⟨rfl, b9⟩
            have BC := hid (bl_tr BC.out b9)
            try have A3 := hid (A3.out.stays b9)
            clear KR b9
            refine hK.out _ _ ((hk4.out _ BC.out)) (fun hSn => ?_)
            clear hK K hS
            have hS := hSn
            clear hSn
            try simp only [Act.put, List.setIfInBounds_toArray, List.set_cons_zero, List.set_cons_succ, List.getElem_toArray, List.getElem_cons_succ, List.getElem_cons_zero]
            refine wpAnyH_take (i := 8) (v := ?_) rfl (by kernel_rfl) (by kernel_rfl) (by kernel_rfl) (fun _ _ _ h => h) (Or.inl ⟨by rfl, ?_⟩) hS ?_
            rotate_left
            · intro wz hz; go_simp; try with_reducible rfl
            try simp only [Act.put, List.setIfInBounds_toArray, List.set_cons_zero, List.set_cons_succ, List.getElem_toArray, List.getElem_cons_succ, List.getElem_cons_zero]
            refine wpAnyH_take (i := 9) (v := ?_) rfl (by kernel_rfl) (by kernel_rfl) (by kernel_rfl) (fun _ _ _ h => h) (Or.inl ⟨by rfl, ?_⟩) hS ?_
            rotate_left
            · intro wz hz; go_simp; try with_reducible rfl
            try simp only [Act.put, List.setIfInBounds_toArray, List.set_cons_zero, List.set_cons_succ, List.getElem_toArray, List.getElem_cons_succ, List.getElem_cons_zero]
            refine wpAnyH_take (i := 10) (v := ?_) rfl (by kernel_rfl) (by kernel_rfl) (by kernel_rfl) (fun _ _ _ h => h) (Or.inl ⟨by rfl, ?_⟩) hS ?_
            rotate_left
            · intro wz hz; go_simp; try with_reducible rfl
            try simp only [Act.put, List.setIfInBounds_toArray, List.set_cons_zero, List.set_cons_succ, List.getElem_toArray, List.getElem_cons_succ, List.getElem_cons_zero]
            refine wpAnyH_take (i := 11) (v := ?_) rfl (by kernel_rfl) (by kernel_rfl) (by kernel_rfl) (fun _ _ _ h => h) (Or.inl ⟨by rfl, ?_⟩) hS ?_
            rotate_left
            · intro wz hz; go_simp; try with_reducible rfl
            try simp only [Act.put, List.setIfInBounds_toArray, List.set_cons_zero, List.set_cons_succ, List.getElem_toArray, List.getElem_cons_succ, List.getElem_cons_zero]
            refine wpAnyH_ready (rs := [12]) (by kernel_rfl) (by simp) (AllReadyH.cons rfl (fun K hK => ?a30_12) AllReadyH.nil)
            case' a30_12 =>
              go_simp
              refine alloc_then (K := K) (fun hA hb => ?_)
              try have KR := hid (KR.out.stays hb)
              have A3 := hid (show Arr _ _ TY [.int .i64 0, .int .i64 0, .slice none 0 0] from ⟨hA⟩)
              have hAl := BC.out.size
              try simp only [size_alloc] at A3
              try simp only [size_alloc] at hAl
              have BD := BC
              refine hK.out _ _ ((hk4.out _ (bl_tr BC.out hb))) (fun hSn => ?_)
              clear hK K hS
              have hS := hSn
              clear hSn
              try simp only [Act.put, List.setIfInBounds_toArray, List.set_cons_zero, List.set_cons_succ, List.getElem_toArray, List.getElem_cons_succ, List.getElem_cons_zero]
              have BC := hid (bl_tr BC.out hb)
              clear hA hb
              refine wpAnyH_ready (rs := [13]) (by kernel_rfl) (by simp) (AllReadyH.cons rfl (fun K hK => ?a31_13) AllReadyH.nil)
              case' a31_13 =>
                have a5 := A3.out.cell
                have f5 := A3.out.frozen
                go_simp
                refine hK.out _ _ ((by first | exact hk4.out _ (bl_set _ _ (bl_set _ _ (bl_set _ _ BC.out hAl) hAl) hAl) | exact hk4.out _ (bl_alloc BD.out _))) (fun hSn => ?_)
                clear hK K hS
                have hS := hSn
                clear hSn
                try simp only [Act.put, List.setIfInBounds_toArray, List.set_cons_zero, List.set_cons_succ, List.getElem_toArray, List.getElem_cons_succ, List.getElem_cons_zero]
                first | have BC := hid (bl_set ⟨_, 2, none⟩ (.slice none 0 0) (bl_set ⟨_, 1, none⟩ (.int .i64 0) (bl_set ⟨_, 0, none⟩ (.int .i64 0) BC.out hAl) hAl) hAl) | skip
                refine wpAnyH_take (i := 14) (v := ?_) rfl (by kernel_rfl) (by kernel_rfl) (by kernel_rfl) (fun _ _ _ h => h) (Or.inl ⟨by rfl, ?_⟩) hS ?_
                rotate_left
                · intro wz hz; go_simp; try with_reducible rfl
                try simp only [Act.put, List.setIfInBounds_toArray, List.set_cons_zero, List.set_cons_succ, List.getElem_toArray, List.getElem_cons_succ, List.getElem_cons_zero]
                refine wpAnyH_take (i := 15) (v := ?_) rfl (by kernel_rfl) (by kernel_rfl) (by kernel_rfl) (fun _ _ _ h => h) (Or.inl ⟨by rfl, ?_⟩) hS ?_
                rotate_left
                · intro wz hz; go_simp; try with_reducible rfl
                try simp only [Act.put, List.setIfInBounds_toArray, List.set_cons_zero, List.set_cons_succ, List.getElem_toArray, List.getElem_cons_succ, List.getElem_cons_zero]
                refine wpAnyH_done (by kernel_rfl) ?_ _
          case' a29_12 =>
            go_simp
            refine alloc_then (K := K) (fun hA hb => ?_)
            try have KR := hid (KR.out.stays hb)
            have A3 := hid (show Arr _ _ TY [.int .i64 0, .int .i64 0, .slice none 0 0] from ⟨hA⟩)
            have hAl := BC.out.size
            try simp only [size_alloc] at A3
            try simp only [size_alloc] at hAl
            have BD := BC
            refine hK.out _ _ ((hk4.out _ (bl_tr BC.out hb))) (fun hSn => ?_)
            clear hK K hS
            have hS := hSn
            clear hSn
            try simp only [Act.put, List.setIfInBounds_toArray, List.set_cons_zero, List.set_cons_succ, List.getElem_toArray, List.getElem_cons_succ, List.getElem_cons_zero]
            have BC := hid (bl_tr BC.out hb)
            clear hA hb
            refine wpAnyH_ready (rs := [7]) (by kernel_rfl) (by simp) (AllReadyH.cons rfl (fun K hK => ?a32_7) AllReadyH.nil)
            case' a32_7 =>
              go_simp
              refine (HC2.out _ _ KR.out).mono ?_
              rintro e w9 ⟨rfl, b9⟩
              have BC := hid (bl_tr BC.out b9)
              try have A3 := hid (A3.out.stays b9)
              clear KR b9
              refine hK.out _ _ ((hk4.out _ BC.out)) (fun hSn => ?_)
              clear hK K hS
              have hS := hSn
              clear hSn
              try simp only [Act.put, List.setIfInBounds_toArray, List.set_cons_zero, List.set_cons_succ, List.getElem_toArray, List.getElem_cons_succ, List.getElem_cons_zero]
              refine wpAnyH_take (i := 8) (v := ?_) rfl (by kernel_rfl) (by kernel_rfl) (by kernel_rfl) (fun _ _ _ h => h) (Or.inl ⟨by rfl, ?_⟩) hS ?_
              rotate_left
              · intro wz hz; go_simp; try with_reducible rfl
              try simp only [Act.put, List.setIfInBounds_toArray, List.set_cons_zero, List.set_cons_succ, List.getElem_toArray, List.getElem_cons_succ, List.getElem_cons_zero]
              refine wpAnyH_take (i := 9) (v := ?_) rfl (by kernel_rfl) (by kernel_rfl) (by kernel_rfl) (fun _ _ _ h => h) (Or.inl ⟨by rfl, ?_⟩) hS ?_
              rotate_left
              · intro wz hz; go_simp; try with_reducible rfl
              try simp only [Act.put, List.setIfInBounds_toArray, List.set_cons_zero, List.set_cons_succ, List.getElem_toArray, List.getElem_cons_succ, List.getElem_cons_zero]
              refine wpAnyH_take (i := 10) (v := ?_) rfl (by kernel_rfl) (by kernel_rfl) (by kernel_rfl) (fun _ _ _ h => h) (Or.inl ⟨by rfl, ?_⟩) hS ?_
              rotate_left
              · intro wz hz; go_simp; try with_reducible rfl
              try simp only [Act.put, List.setIfInBounds_toArray, List.set_cons_zero, List.set_cons_succ, List.getElem_toArray, List.getElem_cons_succ, List.getElem_cons_zero]
              refine wpAnyH_take (i := 11) (v := ?_) rfl (by kernel_rfl) (by kernel_rfl) (by kernel_rfl) (fun _ _ _ h => h) (Or.inl ⟨by rfl, ?_⟩) hS ?_
              rotate_left
              · intro wz hz; go_simp; try with_reducible rfl
              try simp only [Act.put, List.setIfInBounds_toArray, List.set_cons_zero, List.set_cons_succ, List.getElem_toArray, List.getElem_cons_succ, List.getElem_cons_zero]
              refine wpAnyH_ready (rs := [13]) (by kernel_rfl) (by simp) (AllReadyH.cons rfl (fun K hK => ?a33_13) AllReadyH.nil)
              case' a33_13 =>
                have a5 := A3.out.cell
                have f5 := A3.out.frozen
                go_simp
                refine hK.out _ _ ((by first | exact hk4.out _ (bl_set _ _ (bl_set _ _ (bl_set _ _ BC.out hAl) hAl) hAl) | exact hk4.out _ (bl_alloc BD.out _))) (fun hSn => ?_)
                clear hK K hS
                have hS := hSn
                clear hSn
                try simp only [Act.put, List.setIfInBounds_toArray, List.set_cons_zero, List.set_cons_succ, List.getElem_toArray, List.getElem_cons_succ, List.getElem_cons_zero]
                first | have BC := hid (bl_set ⟨_, 2, none⟩ (.slice none 0 0) (bl_set ⟨_, 1, none⟩ (.int .i64 0) (bl_set ⟨_, 0, none⟩ (.int .i64 0) BC.out hAl) hAl) hAl) | skip
                refine wpAnyH_take (i := 14) (v := ?_) rfl (by kernel_rfl) (by kernel_rfl) (by kernel_rfl) (fun _ _ _ h => h) (Or.inl ⟨by rfl, ?_⟩) hS ?_
                rotate_left
                · intro wz hz; go_simp; try with_reducible rfl
                try simp only [Act.put, List.setIfInBounds_toArray, List.set_cons_zero, List.set_cons_succ, List.getElem_toArray, List.getElem_cons_succ, List.getElem_cons_zero]
                refine wpAnyH_take (i := 15) (v := ?_) rfl (by kernel_rfl) (by kernel_rfl) (by kernel_rfl) (fun _ _ _ h => h) (Or.inl ⟨by rfl, ?_⟩) hS ?_
                rotate_left
                · intro wz hz; go_simp; try with_reducible rfl
                try simp only [Act.put, List.setIfInBounds_toArray, List.set_cons_zero, List.set_cons_succ, List.getElem_toArray, List.getElem_cons_succ, List.getElem_cons_zero]
                refine wpAnyH_done (by kernel_rfl) ?_ _
        case' a28_12 =>
          go_simp
          refine alloc_then (K := K) (fun hA hb => ?_)
          try have KR := hid (KR.out.stays hb)
          have A3 := hid (show Arr _ _ TY [.int .i64 0, .int .i64 0, .slice none 0 0] from ⟨hA⟩)
          have hAl := BC.out.size
          try simp only [size_alloc] at A3
          try simp only [size_alloc] at hAl
          have BD := BC
          refine hK.out _ _ ((hk4.out _ (bl_tr BC.out hb))) (fun hSn => ?_)
          clear hK K hS
          have hS := hSn
          clear hSn
          try simp only [Act.put, List.setIfInBounds_toArray, List.set_cons_zero, List.set_cons_succ, List.getElem_toArray, List.getElem_cons_succ, List.getElem_cons_zero]
          have BC := hid (bl_tr BC.out hb)
          clear hA hb
          refine wpAnyH_ready (rs := [5]) (by kernel_rfl) (by simp) (AllReadyH.cons rfl (fun K hK => ?a34_5) AllReadyH.nil)
          case' a34_5 =>
            go_simp
            refine (Own_empty _).mono ?_
            rintro e w8 ⟨rfl, b8⟩
            refine hK.out _ _ ((hk4.out _ (bl_tr BC.out b8))) (fun hSn => ?_)
            clear hK K hS
            have hS := hSn
            clear hSn
            try simp only [Act.put, List.setIfInBounds_toArray, List.set_cons_zero, List.set_cons_succ, List.getElem_toArray, List.getElem_cons_succ, List.getElem_cons_zero]
            have BC := hid (bl_tr BC.out b8)
            try have KR := hid (KR.out.stays b8)
            try have A3 := hid (A3.out.stays b8)
            clear b8
            refine wpAnyH_ready (rs := [7]) (by kernel_rfl) (by simp) (AllReadyH.cons rfl (fun K hK => ?a35_7) AllReadyH.nil)
            case' a35_7 =>
              go_simp
              refine (HC2.out _ _ KR.out).mono ?_
              rintro e w9 ⟨rfl, b9⟩
              have BC := hid (bl_tr BC.out b9)
              try have A3 := hid (A3.out.stays b9)
              clear KR b9
              refine hK.out _ _ ((hk4.out _ BC.out)) (fun hSn => ?_)
              clear hK K hS
              have hS := hSn
              clear hSn
              try simp only [Act.put, List.setIfInBounds_toArray, List.set_cons_zero, List.set_cons_succ, List.getElem_toArray, List.getElem_cons_succ, List.getElem_cons_zero]
              refine wpAnyH_take (i := 8) (v := ?_) rfl (by kernel_rfl) (by kernel_rfl) (by kernel_rfl) (fun _ _ _ h => h) (Or.inl ⟨by rfl, ?_⟩) hS ?_
              rotate_left
              · intro wz hz; go_simp; try with_reducible rfl
              try simp only [Act.put, List.setIfInBounds_toArray, List.set_cons_zero, List.set_cons_succ, List.getElem_toArray, List.getElem_cons_succ, List.getElem_cons_zero]
              refine wpAnyH_take (i := 9) (v := ?_) rfl (by kernel_rfl) (by kernel_rfl) (by kernel_rfl) (fun _ _ _ h => h) (Or.inl ⟨by rfl, ?_⟩) hS ?_
              rotate_left
              · intro wz hz; go_simp; try with_reducible rfl
              try simp only [Act.put, List.setIfInBounds_toArray, List.set_cons_zero, List.set_cons_succ, List.getElem_toArray, List.getElem_cons_succ, List.getElem_cons_zero]
              refine wpAnyH_take (i := 10) (v := ?_) rfl (by kernel_rfl) (by kernel_rfl) (by kernel_rfl) (fun _ _ _ h => h) (Or.inl ⟨by rfl, ?_⟩) hS ?_
              rotate_left
              · intro wz hz; go_simp; try with_reducible rfl
              try simp only [Act.put, List.setIfInBounds_toArray, List.set_cons_zero, List.set_cons_succ, List.getElem_toArray, List.getElem_cons_succ, List.getElem_cons_zero]
              refine wpAnyH_take (i := 11) (v := ?_) rfl (by kernel_rfl) (by kernel_rfl) (by kernel_rfl) (fun _ _ _ h => h) (Or.inl ⟨by rfl, ?_⟩) hS ?_
              rotate_left
              · intro wz hz; go_simp; try with_reducible rfl
              try simp only [Act.put, List.setIfInBounds_toArray, List.set_cons_zero, List.set_cons_succ, List.getElem_toArray, List.getElem_cons_succ, List.getElem_cons_zero]
              refine wpAnyH_ready (rs := [13]) (by kernel_rfl) (by simp) (AllReadyH.cons rfl (fun K hK => ?a36_13) AllReadyH.nil)
              case' a36_13 =>
                have a5 := A3.out.cell
                have f5 := A3.out.frozen
                go_simp
                refine hK.out _ _ ((by first | exact hk4.out _ (bl_set _ _ (bl_set _ _ (bl_set _ _ BC.out hAl) hAl) hAl) | exact hk4.out _ (bl_alloc BD.out _))) (fun hSn => ?_)
                clear hK K hS
                have hS := hSn
                clear hSn
                try simp only [Act.put, List.setIfInBounds_toArray, List.set_cons_zero, List.set_cons_succ, List.getElem_toArray, List.getElem_cons_succ, List.getElem_cons_zero]
                first | have BC := hid (bl_set ⟨_, 2, none⟩ (.slice none 0 0) (bl_set ⟨_, 1, none⟩ (.int .i64 0) (bl_set ⟨_, 0, none⟩ (.int .i64 0) BC.out hAl) hAl) hAl) | skip
                refine wpAnyH_take (i := 14) (v := ?_) rfl (by kernel_rfl) (by kernel_rfl) (by kernel_rfl) (fun _ _ _ h => h) (Or.inl ⟨by rfl, ?_⟩) hS ?_
                rotate_left
                · intro wz hz; go_simp; try with_reducible rfl
                try simp only [Act.put, List.setIfInBounds_toArray, List.set_cons_zero, List.set_cons_succ, List.getElem_toArray, List.getElem_cons_succ, List.getElem_cons_zero]
                refine wpAnyH_take (i := 15) (v := ?_) rfl (by kernel_rfl) (by kernel_rfl) (by kernel_rfl) (fun _ _ _ h => h) (Or.inl ⟨by rfl, ?_⟩) hS ?_
                rotate_left
                · intro wz hz; go_simp; try with_reducible rfl
                try simp only [Act.put, List.setIfInBounds_toArray, List.set_cons_zero, List.set_cons_succ, List.getElem_toArray, List.getElem_cons_succ, List.getElem_cons_zero]
                refine wpAnyH_done (by kernel_rfl) ?_ _
      case' a27_5 =>
        go_simp
        refine (Own_empty _).mono ?_
        rintro e w8 ⟨rfl, b8⟩
        refine hK.out _ _ ((hk4.out _ (bl_tr BC.out b8))) (fun hSn => ?_)
        clear hK K hS
        have hS := hSn
        clear hSn
        try simp only [Act.put, List.setIfInBounds_toArray, List.set_cons_zero, List.set_cons_succ, List.getElem_toArray, List.getElem_cons_succ, List.getElem_cons_zero]
        have BC := hid (bl_tr BC.out b8)
        try have KR := hid (KR.out.stays b8)
        try have A3 := hid (A3.out.stays b8)
        clear b8
        refine wpAnyH_ready (rs := [2, 12]) (by kernel_rfl) (by simp) (AllReadyH.cons rfl (fun K hK => ?a37_2) (AllReadyH.cons rfl (fun K hK => ?a37_12) AllReadyH.nil))
        case' a37_2 =>
          go_simp
          refine alloc_then (K := K) (fun hA hb => ?_)
          have KR := hid (show Arr _ _ PAT5 [.int .i64 2, .string bx, .slice none 0 0, .int .i64 0, .slice none 0 0, .int .i64 2, .string bx, .slice none 0 0, .int .i64 0, .slice none 0 0] from ⟨hA⟩)
          try simp only [size_alloc] at KR
          try have A3 := hid (A3.out.stays hb)
          refine hK.out _ _ ((hk4.out _ (bl_tr BC.out hb))) (fun hSn => ?_)
          clear hK K hS
          have hS := hSn
          clear hSn
          try simp only [Act.put, List.setIfInBounds_toArray, List.set_cons_zero, List.set_cons_succ, List.getElem_toArray, List.getElem_cons_succ, List.getElem_cons_zero]
          have BC := hid (bl_tr BC.out hb)
          clear hA hb
          refine wpAnyH_take (i := 3) (v := ?_) rfl (by kernel_rfl) (by kernel_rfl) (by kernel_rfl) (fun _ _ _ h => h) (Or.inl ⟨by rfl, ?_⟩) hS ?_
          rotate_left
          · intro wz hz; go_simp; try with_reducible rfl
          try simp only [Act.put, List.setIfInBounds_toArray, List.set_cons_zero, List.set_cons_succ, List.getElem_toArray, List.getElem_cons_succ, List.getElem_cons_zero]
          refine wpAnyH_ready (rs := [7, 12]) (by kernel_rfl) (by simp) (AllReadyH.cons rfl (fun K hK => ?a38_7) (AllReadyH.cons rfl (fun K hK => ?a38_12) AllReadyH.nil))
          case' a38_7 =>
            go_simp
            refine (HC2.out _ _ KR.out).mono ?_
            rintro e w9 ⟨rfl, b9⟩
            have BC := hid (bl_tr BC.out b9)
            try have A3 := hid (A3.out.stays b9)
            clear KR b9
            refine hK.out _ _ ((hk4.out _ BC.out)) (fun hSn => ?_)
            clear hK K hS
            have hS := hSn
            clear hSn
            try simp only [Act.put, List.setIfInBounds_toArray, List.set_cons_zero, List.set_cons_succ, List.getElem_toArray, List.getElem_cons_succ, List.getElem_cons_zero]
            refine wpAnyH_take (i := 8) (v := ?_) rfl (by kernel_rfl) (by kernel_rfl) (by kernel_rfl) (fun _ _ _ h => h) (Or.inl ⟨by rfl, ?_⟩) hS ?_
            rotate_left
            · intro wz hz; go_simp; try with_reducible rfl
            try simp only [Act.put, List.setIfInBounds_toArray, List.set_cons_zero, List.set_cons_succ, List.getElem_toArray, List.getElem_cons_succ, List.getElem_cons_zero]
            refine wpAnyH_take (i := 9) (v := ?_) rfl (by kernel_rfl) (by kernel_rfl) (by kernel_rfl) (fun _ _ _ h => h) (Or.inl ⟨by rfl, ?_⟩) hS ?_
            rotate_left
            · intro wz hz; go_simp; try with_reducible rfl
            try simp only [Act.put, List.setIfInBounds_toArray, List.set_cons_zero, List.set_cons_succ, List.getElem_toArray, List.getElem_cons_succ, List.getElem_cons_zero]
            refine wpAnyH_take (i := 10) (v := ?_) rfl (by kernel_rfl) (by kernel_rfl) (by kernel_rfl) (fun _ _ _ h => h) (Or.inl ⟨by rfl, ?_⟩) hS ?_
            rotate_left
            · intro wz hz; go_simp; try with_reducible rfl
            try simp only [Act.put, List.setIfInBounds_toArray, List.set_cons_zero, List.set_cons_succ, List.getElem_toArray, List.getElem_cons_succ, List.getElem_cons_zero]
            refine wpAnyH_take (i := 11) (v := ?_) rfl (by kernel_rfl) (by kernel_rfl) (by kernel_rfl) (fun _ _ _ h => h) (Or.inl ⟨by rfl, ?_⟩) hS ?_
            rotate_left
            · intro wz hz; go_simp; try with_reducible rfl
            try simp only [Act.put, List.setIfInBounds_toArray, List.set_cons_zero, List.set_cons_succ, List.getElem_toArray, List.getElem_cons_succ, List.getElem_cons_zero]
            refine wpAnyH_ready (rs := [12]) (by kernel_rfl) (by simp) (AllReadyH.cons rfl (fun K hK => ?a39_12) AllReadyH.nil)
            case' a39_12 =>
              go_simp
              refine alloc_then (K := K) (fun hA hb => ?_)
              try have KR := hid (KR.out.stays hb)
              have A3 := hid (show Arr _ _ TY [.int .i64 0, .int .i64 0, .slice none 0 0] from ⟨hA⟩)
              have hAl := BC.out.size
              try simp only [size_alloc] at A3
              try simp only [size_alloc] at hAl
              have BD := BC
              refine hK.out _ _ ((hk4.out _ (bl_tr BC.out hb))) (fun hSn => ?_)
              clear hK K hS
              have hS := hSn
              clear hSn
              try simp only [Act.put, List.setIfInBounds_toArray, List.set_cons_zero, List.set_cons_succ, List.getElem_toArray, List.getElem_cons_succ, List.getElem_cons_zero]
              have BC := hid (bl_tr BC.out hb)
              clear hA hb
              refine wpAnyH_ready (rs := [13]) (by kernel_rfl) (by simp) (AllReadyH.cons rfl (fun K hK => ?a40_13) AllReadyH.nil)
              case' a40_13 =>
                have a5 := A3.out.cell
                have f5 := A3.out.frozen
                go_simp
                refine hK.out _ _ ((by first | exact hk4.out _ (bl_set _ _ (bl_set _ _ (bl_set _ _ BC.out hAl) hAl) hAl) | exact hk4.out _ (bl_alloc BD.out _))) (fun hSn => ?_)
                clear hK K hS
                have hS := hSn
                clear hSn
                try simp only [Act.put, List.setIfInBounds_toArray, List.set_cons_zero, List.set_cons_succ, List.getElem_toArray, List.getElem_cons_succ, List.getElem_cons_zero]
                first | have BC := hid (bl_set ⟨_, 2, none⟩ (.slice none 0 0) (bl_set ⟨_, 1, none⟩ (.int .i64 0) (bl_set ⟨_, 0, none⟩ (.int .i64 0) BC.out hAl) hAl) hAl) | skip
                refine wpAnyH_take (i := 14) (v := ?_) rfl (by kernel_rfl) (by kernel_rfl) (by kernel_rfl) (fun _ _ _ h => h) (Or.inl ⟨by rfl, ?_⟩) hS ?_
                rotate_left
                · intro wz hz; go_simp; try with_reducible rfl
                try simp only [Act.put, List.setIfInBounds_toArray, List.set_cons_zero, List.set_cons_succ, List.getElem_toArray, List.getElem_cons_succ, List.getElem_cons_zero]
                refine wpAnyH_take (i := 15) (v := ?_) rfl (by kernel_rfl) (by kernel_rfl) (by kernel_rfl) (fun _ _ _ h => h) (Or.inl ⟨by rfl, ?_⟩) hS ?_
                rotate_left
                · intro wz hz; go_simp; try with_reducible rfl
                try simp only [Act.put, List.setIfInBounds_toArray, List.set_cons_zero, List.set_cons_succ, List.getElem_toArray, List.getElem_cons_succ, List.getElem_cons_zero]
                refine wpAnyH_done (by kernel_rfl) ?_ _
          case' a38_12 =>
            go_simp
            refine alloc_then (K := K) (fun hA hb => ?_)
            try have KR := hid (KR.out.stays hb)
            have A3 := hid (show Arr _ _ TY [.int .i64 0, .int .i64 0, .slice none 0 0] from ⟨hA⟩)
            have hAl := BC.out.size
            try simp only [size_alloc] at A3
            try simp only [size_alloc] at hAl
            have BD := BC
            refine hK.out _ _ ((hk4.out _ (bl_tr BC.out hb))) (fun hSn => ?_)
            clear hK K hS
            have hS := hSn
            clear hSn
            try simp only [Act.put, List.setIfInBounds_toArray, List.set_cons_zero, List.set_cons_succ, List.getElem_toArray, List.getElem_cons_succ, List.getElem_cons_zero]
            have BC := hid (bl_tr BC.out hb)
            clear hA hb
            refine wpAnyH_ready (rs := [7]) (by kernel_rfl) (by simp) (AllReadyH.cons rfl (fun K hK => ?a41_7) AllReadyH.nil)
            case' a41_7 =>
              go_simp
              refine (HC2.out _ _ KR.out).mono ?_
              rintro e w9 ⟨rfl, b9⟩
              have BC := hid (bl_tr BC.out b9)
              try have A3 := hid (A3.out.stays b9)
              clear KR b9
              refine hK.out _ _ ((hk4.out _ BC.out)) (fun hSn => ?_)
              clear hK K hS
              have hS := hSn
              clear hSn
              try simp only [Act.put, List.setIfInBounds_toArray, List.set_cons_zero, List.set_cons_succ, List.getElem_toArray, List.getElem_cons_succ, List.getElem_cons_zero]
              refine wpAnyH_take (i := 8) (v := ?_) rfl (by kernel_rfl) (by kernel_rfl) (by kernel_rfl) (fun _ _ _ h => h) (Or.inl ⟨by rfl, ?_⟩) hS ?_
              rotate_left
              · intro wz hz; go_simp; try with_reducible rfl
              try simp only [Act.put, List.setIfInBounds_toArray, List.set_cons_zero, List.set_cons_succ, List.getElem_toArray, List.getElem_cons_succ, List.getElem_cons_zero]
              refine wpAnyH_take (i := 9) (v := ?_) rfl (by kernel_rfl) (by kernel_rfl) (by kernel_rfl) (fun _ _ _ h => h) (Or.inl ⟨by rfl, ?_⟩) hS ?_
              rotate_left
              · intro wz hz; go_simp; try with_reducible rfl
              try simp only [Act.put, List.setIfInBounds_toArray, List.set_cons_zero, List.set_cons_succ, List.getElem_toArray, List.getElem_cons_succ, List.getElem_cons_zero]
              refine wpAnyH_take (i := 10) (v := ?_) rfl (by kernel_rfl) (by kernel_rfl) (by kernel_rfl) (fun _ _ _ h => h) (Or.inl ⟨by rfl, ?_⟩) hS ?_
              rotate_left
              · intro wz hz; go_simp; try with_reducible rfl
              try simp only [Act.put, List.setIfInBounds_toArray, List.set_cons_zero, List.set_cons_succ, List.getElem_toArray, List.getElem_cons_succ, List.getElem_cons_zero]
              refine wpAnyH_take (i := 11) (v := ?_) rfl (by kernel_rfl) (by kernel_rfl) (by kernel_rfl) (fun _ _ _ h => h) (Or.inl ⟨by rfl, ?_⟩) hS ?_
              rotate_left
              · intro wz hz; go_simp; try with_reducible rfl
              try simp only [Act.put, List.setIfInBounds_toArray, List.set_cons_zero, List.set_cons_succ, List.getElem_toArray, List.getElem_cons_succ, List.getElem_cons_zero]
              refine wpAnyH_ready (rs := [13]) (by kernel_rfl) (by simp) (AllReadyH.cons rfl (fun K hK => ?a42_13) AllReadyH.nil)
              case' a42_13 =>
                have a5 := A3.out.cell
                have f5 := A3.out.frozen
                go_simp
                refine hK.out _ _ ((by first | exact hk4.out _ (bl_set _ _ (bl_set _ _ (bl_set _ _ BC.out hAl) hAl) hAl) | exact hk4.out _ (bl_alloc BD.out _))) (fun hSn => ?_)
                clear hK K hS
                have hS := hSn
                clear hSn
                try simp only [Act.put, List.setIfInBounds_toArray, List.set_cons_zero, List.set_cons_succ, List.getElem_toArray, List.getElem_cons_succ, List.getElem_cons_zero]
                first | have BC := hid (bl_set ⟨_, 2, none⟩ (.slice none 0 0) (bl_set ⟨_, 1, none⟩ (.int .i64 0) (bl_set ⟨_, 0, none⟩ (.int .i64 0) BC.out hAl) hAl) hAl) | skip
                refine wpAnyH_take (i := 14) (v := ?_) rfl (by kernel_rfl) (by kernel_rfl) (by kernel_rfl) (fun _ _ _ h => h) (Or.inl ⟨by rfl, ?_⟩) hS ?_
                rotate_left
                · intro wz hz; go_simp; try with_reducible rfl
                try simp only [Act.put, List.setIfInBounds_toArray, List.set_cons_zero, List.set_cons_succ, List.getElem_toArray, List.getElem_cons_succ, List.getElem_cons_zero]
                refine wpAnyH_take (i := 15) (v := ?_) rfl (by kernel_rfl) (by kernel_rfl) (by kernel_rfl) (fun _ _ _ h => h) (Or.inl ⟨by rfl, ?_⟩) hS ?_
                rotate_left
                · intro wz hz; go_simp; try with_reducible rfl
                try simp only [Act.put, List.setIfInBounds_toArray, List.set_cons_zero, List.set_cons_succ, List.getElem_toArray, List.getElem_cons_succ, List.getElem_cons_zero]
                refine wpAnyH_done (by kernel_rfl) ?_ _
        case' a37_12 =>
          go_simp
          refine alloc_then (K := K) (fun hA hb => ?_)
          try have KR := hid (KR.out.stays hb)
          have A3 := hid (show Arr _ _ TY [.int .i64 0, .int .i64 0, .slice none 0 0] from ⟨hA⟩)
          have hAl := BC.out.size
          try simp only [size_alloc] at A3
          try simp only [size_alloc] at hAl
          have BD := BC
          refine hK.out _ _ ((hk4.out _ (bl_tr BC.out hb))) (fun hSn => ?_)
          clear hK K hS
          have hS := hSn
          clear hSn
          try simp only [Act.put, List.setIfInBounds_toArray, List.set_cons_zero, List.set_cons_succ, List.getElem_toArray, List.getElem_cons_succ, List.getElem_cons_zero]
          have BC := hid (bl_tr BC.out hb)
          clear hA hb
          refine wpAnyH_ready (rs := [2]) (by kernel_rfl) (by simp) (AllReadyH.cons rfl (fun K hK => ?a43_2) AllReadyH.nil)
          case' a43_2 =>
            go_simp
            refine alloc_then (K := K) (fun hA hb => ?_)
            have KR := hid (show Arr _ _ PAT5 [.int .i64 2, .string bx, .slice none 0 0, .int .i64 0, .slice none 0 0, .int .i64 2, .string bx, .slice none 0 0, .int .i64 0, .slice none 0 0] from ⟨hA⟩)
            try simp only [size_alloc] at KR
            try have A3 := hid (A3.out.stays hb)
            refine hK.out _ _ ((hk4.out _ (bl_tr BC.out hb))) (fun hSn => ?_)
            clear hK K hS
            have hS := hSn
            clear hSn
            try simp only [Act.put, List.setIfInBounds_toArray, List.set_cons_zero, List.set_cons_succ, List.getElem_toArray, List.getElem_cons_succ, List.getElem_cons_zero]
            have BC := hid (bl_tr BC.out hb)
            clear hA hb
            refine wpAnyH_take (i := 3) (v := ?_) rfl (by kernel_rfl) (by kernel_rfl) (by kernel_rfl) (fun _ _ _ h => h) (Or.inl ⟨by rfl, ?_⟩) hS ?_
            rotate_left
            · intro wz hz; go_simp; try with_reducible rfl
            try simp only [Act.put, List.setIfInBounds_toArray, List.set_cons_zero, List.set_cons_succ, List.getElem_toArray, List.getElem_cons_succ, List.getElem_cons_zero]
            refine wpAnyH_ready (rs := [7]) (by kernel_rfl) (by simp) (AllReadyH.cons rfl (fun K hK => ?a44_7) AllReadyH.nil)
            case' a44_7 =>
              go_simp
              refine (HC2.out _ _ KR.out).mono ?_
              rintro e w9 ⟨rfl, b9⟩
              have BC := hid (bl_tr BC.out b9)
              try have A3 := hid (A3.out.stays b9)
              clear KR b9
              refine hK.out _ _ ((hk4.out _ BC.out)) (fun hSn => ?_)
              clear hK K hS
              have hS := hSn
              clear hSn
              try simp only [Act.put, List.setIfInBounds_toArray, List.set_cons_zero, List.set_cons_succ, List.getElem_toArray, List.getElem_cons_succ, List.getElem_cons_zero]
              refine wpAnyH_take (i := 8) (v := ?_) rfl (by kernel_rfl) (by kernel_rfl) (by kernel_rfl) (fun _ _ _ h => h) (Or.inl ⟨by rfl, ?_⟩) hS ?_
              rotate_left
              · intro wz hz; go_simp; try with_reducible rfl
              try simp only [Act.put, List.setIfInBounds_toArray, List.set_cons_zero, List.set_cons_succ, List.getElem_toArray, List.getElem_cons_succ, List.getElem_cons_zero]
              refine wpAnyH_take (i := 9) (v := ?_) rfl (by kernel_rfl) (by kernel_rfl) (by kernel_rfl) (fun _ _ _ h => h) (Or.inl ⟨by rfl, ?_⟩) hS ?_
              rotate_left
              · intro wz hz; go_simp; try with_reducible rfl
              try simp only [Act.put, List.setIfInBounds_toArray, List.set_cons_zero, List.set_cons_succ, List.getElem_toArray, List.getElem_cons_succ, List.getElem_cons_zero]
              refine wpAnyH_take (i := 10) (v := ?_) rfl (by kernel_rfl) (by kernel_rfl) (by kernel_rfl) (fun _ _ _ h => h) (Or.inl ⟨by rfl, ?_⟩) hS ?_
              rotate_left
              · intro wz hz; go_simp; try with_reducible rfl
              try simp only [Act.put, List.setIfInBounds_toArray, List.set_cons_zero, List.set_cons_succ, List.getElem_toArray, List.getElem_cons_succ, List.getElem_cons_zero]
              refine wpAnyH_take (i := 11) (v := ?_) rfl (by kernel_rfl) (by kernel_rfl) (by kernel_rfl) (fun _ _ _ h => h) (Or.inl ⟨by rfl, ?_⟩) hS ?_
              rotate_left
              · intro wz hz; go_simp; try with_reducible rfl
              try simp only [Act.put, List.setIfInBounds_toArray, List.set_cons_zero, List.set_cons_succ, List.getElem_toArray, List.getElem_cons_succ, List.getElem_cons_zero]
              refine wpAnyH_ready (rs := [13]) (by kernel_rfl) (by simp) (AllReadyH.cons rfl (fun K hK => ?a45_13) AllReadyH.nil)
              case' a45_13 =>
                have a5 := A3.out.cell
                have f5 := A3.out.frozen
                go_simp
                refine hK.out _ _ ((by first | exact hk4.out _ (bl_set _ _ (bl_set _ _ (bl_set _ _ BC.out hAl) hAl) hAl) | exact hk4.out _ (bl_alloc BD.out _))) (fun hSn => ?_)
                clear hK K hS
                have hS := hSn
                clear hSn
                try simp only [Act.put, List.setIfInBounds_toArray, List.set_cons_zero, List.set_cons_succ, List.getElem_toArray, List.getElem_cons_succ, List.getElem_cons_zero]
                first | have BC := hid (bl_set ⟨_, 2, none⟩ (.slice none 0 0) (bl_set ⟨_, 1, none⟩ (.int .i64 0) (bl_set ⟨_, 0, none⟩ (.int .i64 0) BC.out hAl) hAl) hAl) | skip
                refine wpAnyH_take (i := 14) (v := ?_) rfl (by kernel_rfl) (by kernel_rfl) (by kernel_rfl) (fun _ _ _ h => h) (Or.inl ⟨by rfl, ?_⟩) hS ?_
                rotate_left
                · intro wz hz; go_simp; try with_reducible rfl
                try simp only [Act.put, List.setIfInBounds_toArray, List.set_cons_zero, List.set_cons_succ, List.getElem_toArray, List.getElem_cons_succ, List.getElem_cons_zero]
                refine wpAnyH_take (i := 15) (v := ?_) rfl (by kernel_rfl) (by kernel_rfl) (by kernel_rfl) (fun _ _ _ h => h) (Or.inl ⟨by rfl, ?_⟩) hS ?_
                rotate_left
                · intro wz hz; go_simp; try with_reducible rfl
                try simp only [Act.put, List.setIfInBounds_toArray, List.set_cons_zero, List.set_cons_succ, List.getElem_toArray, List.getElem_cons_succ, List.getElem_cons_zero]
                refine wpAnyH_done (by kernel_rfl) ?_ _
      case' a27_12 =>
        go_simp
        refine alloc_then (K := K) (fun hA hb => ?_)
        try have KR := hid (KR.out.stays hb)
        have A3 := hid (show Arr _ _ TY [.int .i64 0, .int .i64 0, .slice none 0 0] from ⟨hA⟩)
        have hAl := BC.out.size
        try simp only [size_alloc] at A3
        try simp only [size_alloc] at hAl
        have BD := BC
        refine hK.out _ _ ((hk4.out _ (bl_tr BC.out hb))) (fun hSn => ?_)
        clear hK K hS
        have hS := hSn
        clear hSn
        try simp only [Act.put, List.setIfInBounds_toArray, List.set_cons_zero, List.set_cons_succ, List.getElem_toArray, List.getElem_cons_succ, List.getElem_cons_zero]
        have BC := hid (bl_tr BC.out hb)
        clear hA hb
        refine wpAnyH_ready (rs := [2, 5]) (by kernel_rfl) (by simp) (AllReadyH.cons rfl (fun K hK => ?a46_2) (AllReadyH.cons rfl (fun K hK => ?a46_5) AllReadyH.nil))
        case' a46_2 =>
          go_simp
          refine alloc_then (K := K) (fun hA hb => ?_)
          have KR := hid (show Arr _ _ PAT5 [.int .i64 2, .string bx, .slice none 0 0, .int .i64 0, .slice none 0 0, .int .i64 2, .string bx, .slice none 0 0, .int .i64 0, .slice none 0 0] from ⟨hA⟩)
          try simp only [size_alloc] at KR
          try have A3 := hid (A3.out.stays hb)
          refine hK.out _ _ ((hk4.out _ (bl_tr BC.out hb))) (fun hSn => ?_)
          clear hK K hS
          have hS := hSn
          clear hSn
          try simp only [Act.put, List.setIfInBounds_toArray, List.set_cons_zero, List.set_cons_succ, List.getElem_toArray, List.getElem_cons_succ, List.getElem_cons_zero]
          have BC := hid (bl_tr BC.out hb)
          clear hA hb
          refine wpAnyH_take (i := 3) (v := ?_) rfl (by kernel_rfl) (by kernel_rfl) (by kernel_rfl) (fun _ _ _ h => h) (Or.inl ⟨by rfl, ?_⟩) hS ?_
          rotate_left
          · intro wz hz; go_simp; try with_reducible rfl
          try simp only [Act.put, List.setIfInBounds_toArray, List.set_cons_zero, List.set_cons_succ, List.getElem_toArray, List.getElem_cons_succ, List.getElem_cons_zero]
          refine wpAnyH_ready (rs := [5]) (by kernel_rfl) (by simp) (AllReadyH.cons rfl (fun K hK => ?a47_5) AllReadyH.nil)
          case' a47_5 =>
            go_simp
            refine (Own_empty _).mono ?_
            rintro e w8 ⟨rfl, b8⟩
            refine hK.out _ _ ((hk4.out _ (bl_tr BC.out b8))) (fun hSn => ?_)
            clear hK K hS
            have hS := hSn
            clear hSn
            try simp only [Act.put, List.setIfInBounds_toArray, List.set_cons_zero, List.set_cons_succ, List.getElem_toArray, List.getElem_cons_succ, List.getElem_cons_zero]
            have BC := hid (bl_tr BC.out b8)
            try have KR := hid (KR.out.stays b8)
            try have A3 := hid (A3.out.stays b8)
            clear b8
            refine wpAnyH_ready (rs := [7]) (by kernel_rfl) (by simp) (AllReadyH.cons rfl (fun K hK => ?a48_7) AllReadyH.nil)
            case' a48_7 =>
              go_simp
              refine (HC2.out _ _ KR.out).mono ?_
              rintro e w9 ⟨rfl, b9⟩
              have BC := hid (bl_tr BC.out b9)
              try have A3 := hid (A3.out.stays b9)
              clear KR b9
              refine hK.out _ _ ((hk4.out _ BC.out)) (fun hSn => ?_)
              clear hK K hS
              have hS := hSn
              clear hSn
              try simp only [Act.put, List.setIfInBounds_toArray, List.set_cons_zero, List.set_cons_succ, List.getElem_toArray, List.getElem_cons_succ, List.getElem_cons_zero]
              refine wpAnyH_take (i := 8) (v := ?_) rfl (by kernel_rfl) (by kernel_rfl) (by kernel_rfl) (fun _ _ _ h => h) (Or.inl ⟨by rfl, ?_⟩) hS ?_
              rotate_left
              · intro wz hz; go_simp; try with_reducible rfl
              try simp only [Act.put, List.setIfInBounds_toArray, List.set_cons_zero, List.set_cons_succ, List.getElem_toArray, List.getElem_cons_succ, List.getElem_cons_zero]
              refine wpAnyH_take (i := 9) (v := ?_) rfl (by kernel_rfl) (by kernel_rfl) (by kernel_rfl) (fun _ _ _ h => h) (Or.inl ⟨by rfl, ?_⟩) hS ?_
              rotate_left
              · intro wz hz; go_simp; try with_reducible rfl
              try simp only [Act.put, List.setIfInBounds_toArray, List.set_cons_zero, List.set_cons_succ, List.getElem_toArray, List.getElem_cons_succ, List.getElem_cons_zero]
              refine wpAnyH_take (i := 10) (v := ?_) rfl (by kernel_rfl) (by kernel_rfl) (by kernel_rfl) (fun _ _ _ h => h) (Or.inl ⟨by rfl, ?_⟩) hS ?_
              rotate_left
              · intro wz hz; go_simp; try with_reducible rfl
              try simp only [Act.put, List.setIfInBounds_toArray, List.set_cons_zero, List.set_cons_succ, List.getElem_toArray, List.getElem_cons_succ, List.getElem_cons_zero]
              refine wpAnyH_take (i := 11) (v := ?_) rfl (by kernel_rfl) (by kernel_rfl) (by kernel_rfl) (fun _ _ _ h => h) (Or.inl ⟨by rfl, ?_⟩) hS ?_
              rotate_left
              · intro wz hz; go_simp; try with_reducible rfl
              try simp only [Act.put, List.setIfInBounds_toArray, List.set_cons_zero, List.set_cons_succ, List.getElem_toArray, List.getElem_cons_succ, List.getElem_cons_zero]
              refine wpAnyH_ready (rs := [13]) (by kernel_rfl) (by simp) (AllReadyH.cons rfl (fun K hK => ?a49_13) AllReadyH.nil)
              case' a49_13 =>
                have a5 := A3.out.cell
                have f5 := A3.out.frozen
                go_simp
                refine hK.out _ _ ((by first | exact hk4.out _ (bl_set _ _ (bl_set _ _ (bl_set _ _ BC.out hAl) hAl) hAl) | exact hk4.out _ (bl_alloc BD.out _))) (fun hSn => ?_)
                clear hK K hS
                have hS := hSn
                clear hSn
                try simp only [Act.put, List.setIfInBounds_toArray, List.set_cons_zero, List.set_cons_succ, List.getElem_toArray, List.getElem_cons_succ, List.getElem_cons_zero]
                first | have BC := hid (bl_set ⟨_, 2, none⟩ (.slice none 0 0) (bl_set ⟨_, 1, none⟩ (.int .i64 0) (bl_set ⟨_, 0, none⟩ (.int .i64 0) BC.out hAl) hAl) hAl) | skip
                refine wpAnyH_take (i := 14) (v := ?_) rfl (by kernel_rfl) (by kernel_rfl) (by kernel_rfl) (fun _ _ _ h => h) (Or.inl ⟨by rfl, ?_⟩) hS ?_
                rotate_left
                · intro wz hz; go_simp; try with_reducible rfl
                try simp only [Act.put, List.setIfInBounds_toArray, List.set_cons_zero, List.set_cons_succ, List.getElem_toArray, List.getElem_cons_succ, List.getElem_cons_zero]
                refine wpAnyH_take (i := 15) (v := ?_) rfl (by kernel_rfl) (by kernel_rfl) (by kernel_rfl) (fun _ _ _ h => h) (Or.inl ⟨by rfl, ?_⟩) hS ?_
                rotate_left
                · intro wz hz; go_simp; try with_reducible rfl
                try simp only [Act.put, List.setIfInBounds_toArray, List.set_cons_zero, List.set_cons_succ, List.getElem_toArray, List.getElem_cons_succ, List.getElem_cons_zero]
                refine wpAnyH_done (by kernel_rfl) ?_ _
        case' a46_5 =>
          go_simp
          refine (Own_empty _).mono ?_
          rintro e w8 ⟨rfl, b8⟩
          refine hK.out _ _ ((hk4.out _ (bl_tr BC.out b8))) (fun hSn => ?_)
          clear hK K hS
          have hS := hSn
          clear hSn
          try simp only [Act.put, List.setIfInBounds_toArray, List.set_cons_zero, List.set_cons_succ, List.getElem_toArray, List.getElem_cons_succ, List.getElem_cons_zero]
          have BC := hid (bl_tr BC.out b8)
          try have KR := hid (KR.out.stays b8)
          try have A3 := hid (A3.out.stays b8)
          clear b8
          refine wpAnyH_ready (rs := [2]) (by kernel_rfl) (by simp) (AllReadyH.cons rfl (fun K hK => ?a50_2) AllReadyH.nil)
          case' a50_2 =>
            go_simp
            refine alloc_then (K := K) (fun hA hb => ?_)
            have KR := hid (show Arr _ _ PAT5 [.int .i64 2, .string bx, .slice none 0 0, .int .i64 0, .slice none 0 0, .int .i64 2, .string bx, .slice none 0 0, .int .i64 0, .slice none 0 0] from ⟨hA⟩)
            try simp only [size_alloc] at KR
            try have A3 := hid (A3.out.stays hb)
            refine hK.out _ _ ((hk4.out _ (bl_tr BC.out hb))) (fun hSn => ?_)
            clear hK K hS
            have hS := hSn
            clear hSn
            try simp only [Act.put, List.setIfInBounds_toArray, List.set_cons_zero, List.set_cons_succ, List.getElem_toArray, List.getElem_cons_succ, List.getElem_cons_zero]
            have BC := hid (bl_tr BC.out hb)
            clear hA hb
            refine wpAnyH_take (i := 3) (v := ?_) rfl (by kernel_rfl) (by kernel_rfl) (by kernel_rfl) (fun _ _ _ h => h) (Or.inl ⟨by rfl, ?_⟩) hS ?_
            rotate_left
            · intro wz hz; go_simp; try with_reducible rfl
            try simp only [Act.put, List.setIfInBounds_toArray, List.set_cons_zero, List.set_cons_succ, List.getElem_toArray, List.getElem_cons_succ, List.getElem_cons_zero]
            refine wpAnyH_ready (rs := [7]) (by kernel_rfl) (by simp) (AllReadyH.cons rfl (fun K hK => ?a51_7) AllReadyH.nil)
            case' a51_7 =>
              go_simp
              refine (HC2.out _ _ KR.out).mono ?_
              rintro e w9 ⟨rfl, b9⟩
              have BC := hid (bl_tr BC.out b9)
              try have A3 := hid (A3.out.stays b9)
              clear KR b9
              refine hK.out _ _ ((hk4.out _ BC.out)) (fun hSn => ?_)
              clear hK K hS
              have hS := hSn
              clear hSn
              try simp only [Act.put, List.setIfInBounds_toArray, List.set_cons_zero, List.set_cons_succ, List.getElem_toArray, List.getElem_cons_succ, List.getElem_cons_zero]
              refine wpAnyH_take (i := 8) (v := ?_) rfl (by kernel_rfl) (by kernel_rfl) (by kernel_rfl) (fun _ _ _ h => h) (Or.inl ⟨by rfl, ?_⟩) hS ?_
              rotate_left
              · intro wz hz; go_simp; try with_reducible rfl
              try simp only [Act.put, List.setIfInBounds_toArray, List.set_cons_zero, List.set_cons_succ, List.getElem_toArray, List.getElem_cons_succ, List.getElem_cons_zero]
              refine wpAnyH_take (i := 9) (v := ?_) rfl (by kernel_rfl) (by kernel_rfl) (by kernel_rfl) (fun _ _ _ h => h) (Or.inl ⟨by rfl, ?_⟩) hS ?_
              rotate_left
              · intro wz hz; go_simp; try with_reducible rfl
              try simp only [Act.put, List.setIfInBounds_toArray, List.set_cons_zero, List.set_cons_succ, List.getElem_toArray, List.getElem_cons_succ, List.getElem_cons_zero]
              refine wpAnyH_take (i := 10) (v := ?_) rfl (by kernel_rfl) (by kernel_rfl) (by kernel_rfl) (fun _ _ _ h => h) (Or.inl ⟨by rfl, ?_⟩) hS ?_
              rotate_left
              · intro wz hz; go_simp; try with_reducible rfl
              try simp only [Act.put, List.setIfInBounds_toArray, List.set_cons_zero, List.set_cons_succ, List.getElem_toArray, List.getElem_cons_succ, List.getElem_cons_zero]
              refine wpAnyH_take (i := 11) (v := ?_) rfl (by kernel_rfl) (by kernel_rfl) (by kernel_rfl) (fun _ _ _ h => h) (Or.inl ⟨by rfl, ?_⟩) hS ?_
              rotate_left
              · intro wz hz; go_simp; try with_reducible rfl
              try simp only [Act.put, List.setIfInBounds_toArray, List.set_cons_zero, List.set_cons_succ, List.getElem_toArray, List.getElem_cons_succ, List.getElem_cons_zero]
              refine wpAnyH_ready (rs := [13]) (by kernel_rfl) (by simp) (AllReadyH.cons rfl (fun K hK => ?a52_13) AllReadyH.nil)
              case' a52_13 =>
                have a5 := A3.out.cell
                have f5 := A3.out.frozen
                go_simp
                refine hK.out _ _ ((by first | exact hk4.out _ (bl_set _ _ (bl_set _ _ (bl_set _ _ BC.out hAl) hAl) hAl) | exact hk4.out _ (bl_alloc BD.out _))) (fun hSn => ?_)
                clear hK K hS
                have hS := hSn
                clear hSn
                try simp only [Act.put, List.setIfInBounds_toArray, List.set_cons_zero, List.set_cons_succ, List.getElem_toArray, List.getElem_cons_succ, List.getElem_cons_zero]
                first | have BC := hid (bl_set ⟨_, 2, none⟩ (.slice none 0 0) (bl_set ⟨_, 1, none⟩ (.int .i64 0) (bl_set ⟨_, 0, none⟩ (.int .i64 0) BC.out hAl) hAl) hAl) | skip
                refine wpAnyH_take (i := 14) (v := ?_) rfl (by kernel_rfl) (by kernel_rfl) (by kernel_rfl) (fun _ _ _ h => h) (Or.inl ⟨by rfl, ?_⟩) hS ?_
                rotate_left
                · intro wz hz; go_simp; try with_reducible rfl
                try simp only [Act.put, List.setIfInBounds_toArray, List.set_cons_zero, List.set_cons_succ, List.getElem_toArray, List.getElem_cons_succ, List.getElem_cons_zero]
                refine wpAnyH_take (i := 15) (v := ?_) rfl (by kernel_rfl) (by kernel_rfl) (by kernel_rfl) (fun _ _ _ h => h) (Or.inl ⟨by rfl, ?_⟩) hS ?_
                rotate_left
                · intro wz hz; go_simp; try with_reducible rfl
                try simp only [Act.put, List.setIfInBounds_toArray, List.set_cons_zero, List.set_cons_succ, List.getElem_toArray, List.getElem_cons_succ, List.getElem_cons_zero]
                refine wpAnyH_done (by kernel_rfl) ?_ _
      all_goals (
        have HBF := hid (bl_tr HBD.out BC.out)
        clear hS
        go_wp2
        go_meet
        first | exact ⟨rfl, HBF.out⟩ | exact ⟨rfl, bl_tr HBD.out (bl_alloc BD.out _)⟩)
    case rest =>
      obtain ⟨rfl, hb4⟩ := hcut
      have A4 := HA.out.stays hb4
      have HA4 := hid A4
      have HT4 := hid (HT.out.move (K' := Any) (Keeps.of_below hb4) (fun _ h => h))
      have HS4 := hid (HS.out.stays hb4)
      have HG4 := hid (show Cells wc g9 0 [.string bx, .int .i64 7, .int .i64 0, .slice s9 0 k9] ∧ g9 < wc.heap.size from ⟨fun j u hu => (hb4.cell (show g9 < wq.heap.size from HGL.out)).trans (HG.out j u hu), Nat.lt_of_lt_of_le HGL.out hb4.size⟩)
      have HB4 := hid (bl_tr HB.out hb4)
      have hXq := HX.out
      have eX := hb4.block w1.heap.size (World.block_lt_of_cell? _ _ hXq.1)
      have x0 : wc.cell? ⟨w1.heap.size, 0, none⟩ = _ := (World.cell?_of_block (w := wq) eX).trans hXq.1
      have x1 : wc.cell? ⟨w1.heap.size, 1, none⟩ = _ := (World.cell?_of_block (w := wq) eX).trans hXq.2.1
      have x2 : wc.cell? ⟨w1.heap.size, 2, none⟩ = _ := (World.cell?_of_block (w := wq) eX).trans hXq.2.2.1
      have x3 : wc.cell? ⟨w1.heap.size, 3, none⟩ = _ := (World.cell?_of_block (w := wq) eX).trans hXq.2.2.2.1
      have x4 : wc.cell? ⟨w1.heap.size, 4, none⟩ = _ := (World.cell?_of_block (w := wq) eX).trans hXq.2.2.2.2
      have hAlt : A < wc.heap.size := A4.lt
      have HAL2 := hid hAlt
      clear hb4 hXq eX A4 HA HT HG HGL HS HX HB BC HBD hk4 s4 HC2 hAlt
      go_wp2_with (first
        | (go_at_call 5
           refine (fits_x _).mono ?_
           rintro e w6 ⟨⟨a6, c6, b6, o6, d6, rfl, hn6, hb6⟩, q6⟩
           have A6 := HA4.out.stays q6
           have c6A := A6.cell
           have HA6 := hid A6
           have HR : Hid (Calls Tryz.prog 15 #[.pointer (some ⟨w.heap.size + 1, 0, none⟩), .agg #[.int .i64 5, .int .i64 0, .slice a9 2 c9]] w6 fun e w' => (∃ a c N', e = .returned (.tuple #[.agg #[.int .i64 5, .int .i64 0, .slice a 2 c], .int .i64 0]) ∧ TAt w' (fun b => w6.heap.size ≤ b) N' [.int .i64 5, .int .i64 0, .slice a 2 c] tPair) ∧ Below w6.heap.size w6 w') := hid (ResolveO w6 _ _ _ _ 1 (HS4.out.stays q6) N9 _ tPair (HT4.out.move (K' := Any) (Keeps.of_below q6) (fun _ h => h)) (by decide) (show opB 1 tPair = true from by decide))
           have HG6 := hid (show Cells w6 g9 0 [.string bx, .int .i64 7, .int .i64 0, .slice s9 0 k9] ∧ g9 < w6.heap.size from ⟨fun j u hu => (q6.cell (show g9 < wc.heap.size from HG4.out.2)).trans (HG4.out.1 j u hu), Nat.lt_of_lt_of_le HG4.out.2 q6.size⟩)
           have HN6 := hid hn6
           have hbA : b6 ≠ A := by have := HAL2.out; omega
           have HBA := hid hbA
           have HB6 := hid (bl_tr HB4.out q6)
           clear q6 A6 hn6 hb6 hbA)
        | (go_at_call 15
           refine HR.out.mono ?_
           rintro e w7 ⟨⟨a7, c7, N7, rfl, -⟩, q7⟩
           have A7 := HA6.out.stays q7
           have c7A := A7.cell
           have f7A := A7.frozen
           have hb6l := World.block_lt_of_cell? _ _ HN6.out
           have r7 : Arr (((w7.setCell ⟨A, 0, none⟩ (.int .i64 5)).setCell ⟨A, 1, none⟩ (.int .i64 0)).setCell ⟨A, 2, none⟩ (.slice a7 2 c7)) A TY [.int .i64 5, .int .i64 0, .slice a7 2 c7] := ((A7.set 0 _).set 1 _).set 2 _
           have r7c := r7.cell
           have HG7 := cells_off (w := w7) (g := g9) (A := A) (s := bx) (x := .int .i64 7) (y := .int .i64 0) (z := .slice s9 0 k9) (fun j u hu => (q7.cell (show g9 < w6.heap.size from HG6.out.2)).trans (HG6.out.1 j u hu)) A7 (by intro s h; cases h) (.int .i64 5) (.int .i64 0) (.slice a7 2 c7)
           have g7c : (((w7.setCell ⟨A, 0, none⟩ (.int .i64 5)).setCell ⟨A, 1, none⟩ (.int .i64 0)).setCell ⟨A, 2, none⟩ (.slice a7 2 c7)).cell? ⟨g9, 0, none⟩ = some (.string ⟨#[120]⟩) := HG7.1 0 _ rfl
           have n7c : (((w7.setCell ⟨A, 0, none⟩ (.int .i64 5)).setCell ⟨A, 1, none⟩ (.int .i64 0)).setCell ⟨A, 2, none⟩ (.slice a7 2 c7)).cell? ⟨b6, o6 + 1, none⟩ = some (.int .i64 5) := (World.cell?_of_block (w := w7) ((Below.heap_setCell _ ⟨A, 2, none⟩ _ _ HBA.out).trans ((Below.heap_setCell _ ⟨A, 1, none⟩ _ _ HBA.out).trans (Below.heap_setCell _ ⟨A, 0, none⟩ _ _ HBA.out)))).trans ((q7.cell hb6l).trans HN6.out)
           have HB7 := hid (bl_tr HB6.out q7)
           clear q7 A7 hb6l r7 HG7))
      go_ret
      have hA1 : w.heap.size ≤ A := by have := HB1.out.size; omega
      exact ⟨rfl, bl_set _ _ (bl_set _ _ (bl_set _ _ HB7.out hA1) hA1) hA1⟩
end Go.Proofs.YtjodgnkhociaaaaGreat
