/- alive: the chapter's examples come. -/
import Derived.Test.YthijckdhndbdoaaTsJ
import Derived.Test.YthijckdhndbdoaaTsZ
import Derived.Test.YthijckdhndbdoaaTpE
namespace Go.Proofs.Ythijckdhndbdoaa
open Go.RowKit
set_option linter.unusedVariables false
set_option linter.unusedSimpArgs false

def X1 : Tp := .mk 4 0 [.mk 7 3 [], .mk 4 0 [.mk 7 1 [], .mk 7 3 []]]
def X2 : Tp := .mk 4 0 [.mk 8 0 [], .mk 4 0 [.mk 7 1 [], .mk 8 0 []]]
def X3 : Tp := .mk 4 0 [.mk 8 0 [], .mk 4 0 [.mk 8 1 [], .mk 8 0 []]]
def X4 : Tp := .mk 4 0 [.mk 7 7 [], .mk 4 0 [.mk 7 8 [], .mk 7 7 []]]
def X5 : Tp := .mk 4 0 [.mk 8 0 [], .mk 8 0 []]
def X6 : Tp := .mk 4 0 [.mk 1 0 [], .mk 1 0 []]
theorem x1_open : Tp.open_ X1 [1] = [(7, 3)] := by simp [Tp.open_, X1, Tp.found, Tp.foundL, Tp.ins, pls]
theorem x1_ren : Tp.ren (plf (Tp.open_ X1 [1])) X1 = X2 := by rw [x1_open]; simp [X1, X2, Tp.ren, Tp.renL, plf, List.idxOf, List.findIdx_cons]
theorem x1_cnt : X1.cnt ≤ 1048576 := by simp [X1, Tp.cnt, Tp.cntL]
theorem x3_ok : InstOk 2 7 X3 := ⟨by simp [X3, Tp.rightS, Tp.right, Tp.rightL, Tp.own, Tp.found, Tp.foundL, Tp.ins, Tp.ups], by decide, by decide⟩
theorem x3_ren : Tp.ren (mff 7) X3 = X4 := by simp [X3, X4, Tp.ren, Tp.renL, mff, wrap64]
theorem x3_cnt : X3.cnt ≤ 1048576 := by simp [X3, Tp.cnt, Tp.cntL]
theorem x5_cnt : X5.cnt ≤ 1048576 := by simp [X5, Tp.cnt, Tp.cntL]
theorem x6_cnt : X6.cnt ≤ 1048576 := by simp [X6, Tp.cnt, Tp.cntL]
theorem x56 : MatOk 1 0 X5 X6 := ⟨by simp [X5, Tp.rightS, Tp.right, Tp.rightL, Tp.own, Tp.found, Tp.foundL, Tp.ins, Tp.ups], by simp [X6, Tp.rightS, Tp.right, Tp.rightL, Tp.own, Tp.found, Tp.foundL, Tp.ins, Tp.ups], fun _ => .mk 1 0 [], by simp [X5, X6, Tp.inst, Tp.instL]⟩
theorem x65 : ¬ MatOk 0 1 X6 X5 := by
  rintro ⟨-, -, τ, h⟩
  simp [X5, X6, Tp.inst, Tp.instL] at h
theorem r64n (n : Int) (h0 : 0 ≤ n) (h1 : n ≤ 1000) : R64 n := ⟨by omega, by omega⟩
theorem cmp_self (t : Tp) : (Tp.cmp t t == 0) = true := by rw [beq_iff_eq, Tp.cmp_eq]
theorem ls1 (w : World) (a : Int) (T : TypeId) : Ls (w.alloc (.cells #[.int .i64 a] T)) Any (.slice (some ⟨w.heap.size, 0, none⟩) 1 1) [a] := by
  refine .inl ⟨w.heap.size, 0, 1, rfl, trivial, (show 1 ≤ 1 by decide), (show 1 ≤ maxLen by decide), fun j x hx => ?_⟩
  have hh := heap_alloc_at w (.cells #[.int .i64 a] T)
  match j, hx with
  | 0, hx => simp at hx; subst hx; rw [cell_at hh]; rfl
  | j + 1, hx => simp at hx
theorem gen_ex (W : World) (n : Nat) (g : Nat) (kv : Value) (hT : TAt W Any n [.int .i64 4, .int .i64 0, .slice (some ⟨g, 0, none⟩) 2 2] X1) (hk : Ls W Any kv [1]) :
    Calls Try.prog 21 #[.agg #[.int .i64 4, .int .i64 0, .slice (some ⟨g, 0, none⟩) 2 2], kv] W fun e w' => ∃ a c n', e = .returned (.agg #[.int .i64 1, .int .i64 4, .int .i64 0, .slice a 2 c]) ∧ TAt w' Any n' [.int .i64 4, .int .i64 0, .slice a 2 c] X2 ∧ Below W.heap.size W w' := by
  refine (Generalise_any W n _ X1 kv [1] hT hk (fun x hx => by rw [List.mem_singleton.1 hx]; exact r64n 1 (by decide) (by decide)) (by simp) x1_cnt).mono ?_
  rintro e w' ⟨vs', n', rfl, h1, h2⟩
  rw [x1_ren] at h1
  obtain ⟨a, c, rfl⟩ := h1.form
  exact ⟨a, c, n', by rw [x1_open]; rfl, h1.any, h2⟩
theorem inst_ex (W : World) (n : Nat) (g : Nat) (hT : TAt W Any n [.int .i64 4, .int .i64 0, .slice (some ⟨g, 0, none⟩) 2 2] X3) :
    Calls Try.prog 8 #[.agg #[.int .i64 2, .int .i64 4, .int .i64 0, .slice (some ⟨g, 0, none⟩) 2 2], .int .i64 7] W fun e w' => ∃ a c n', e = .returned (.tuple #[.agg #[.int .i64 4, .int .i64 0, .slice a 2 c], .int .i64 9, .int .i64 0]) ∧ TAt w' Any n' [.int .i64 4, .int .i64 0, .slice a 2 c] X4 ∧ Below W.heap.size W w' := by
  refine (Instantiate_ok W n 2 7 _ X3 hT x3_cnt x3_ok).mono ?_
  rintro e w' ⟨vs', n', rfl, h1, h2⟩
  rw [x3_ren] at h1
  obtain ⟨a, c, rfl⟩ := h1.form
  exact ⟨a, c, n', rfl, h1.any, h2⟩

/-- What is known of a world, and stays while nothing that is there turns. -/
structure St (P : World → Prop) (W : World) : Prop where
  here : P W
  st : ∀ W W', P W → Below W.heap.size W W' → P W'
theorem St.stays {P : World → Prop} {W W' : World} (h : St P W) (hb : Below W.heap.size W W') : St P W' := ⟨h.st _ _ h.here hb, h.st⟩
theorem St.add {P Q : World → Prop} {W : World} (h : St P W) (q : Q W) (sq : ∀ W W', Q W → Below W.heap.size W W' → Q W') : St (fun W => P W ∧ Q W) W := ⟨⟨h.here, q⟩, fun _ _ p hb => ⟨h.st _ _ p.1 hb, sq _ _ p.2 hb⟩⟩
theorem St.addA {P : World → Prop} {W : World} {b : Nat} {T : TypeId} {cur : List Value} (h : St P W) (q : Arr W b T cur) : St (fun W => P W ∧ Arr W b T cur) W := h.add q fun _ _ h hb => h.stays hb
theorem St.addT {P : World → Prop} {W : World} {n : Nat} {vs : List Value} {t : Tp} (h : St P W) (q : TAt W Any n vs t) : St (fun W => P W ∧ TAt W Any n vs t) W := h.add q fun _ _ h hb => h.below hb
theorem stT {P : World → Prop} {W : World} {b1 b2 b3 b4 : Nat} {c1 c2 c3 c4 : List Value} (h : (∀ j : Nat, W.cell? ⟨b1, j, none⟩ = c1[j]?) ∧ (∀ j : Nat, W.cell? ⟨b2, j, none⟩ = c2[j]?) ∧ (∀ j : Nat, W.cell? ⟨b3, j, none⟩ = c3[j]?) ∧ (∀ j : Nat, W.cell? ⟨b4, j, none⟩ = c4[j]?) ∧ St P W) : St P W := h.2.2.2.2
theorem stS {P : World → Prop} {W : World} {b1 b2 b3 b4 : Nat} {c1 c2 c3 c4 : List Value} (h : (∀ j : Nat, W.cell? ⟨b1, j, none⟩ = c1[j]?) ∧ (∀ j : Nat, W.cell? ⟨b2, j, none⟩ = c2[j]?) ∧ (∀ j : Nat, W.cell? ⟨b3, j, none⟩ = c3[j]?) ∧ (∀ j : Nat, W.cell? ⟨b4, j, none⟩ = c4[j]?) ∧ St P W) : P W := h.2.2.2.2.here
theorem st_new (w : World) : St (fun W => Below w.heap.size w W) w := ⟨Below.refl _ _, fun _ _ h hb => bl_tr h hb⟩

set_option maxHeartbeats 8000000 in
set_option maxRecDepth 100000 in
theorem alive12 (w : World) : Calls Try.prog 13 #[] w fun e w' => e = .returned (.bool true) ∧ Below w.heap.size w w' := by
  have lf : Hid (∀ (W : World) (k n : Int), 0 ≤ k → k ≤ 1000 → 0 ≤ n → n ≤ 1000 → TAt W Any 1 [.int .i64 k, .int .i64 n, .slice none 0 0] (.mk k n [])) := fun W k n a b c d => TAt.leaf12 W Any k n (r64n k a b) (r64n n c d)
  have m1 : Hid True := trivial
  have m2 : Hid True := trivial
  have m3 : Hid True := trivial
  have m4 : Hid True := trivial
  have m5 : Hid True := trivial
  have m6 : Hid True := trivial
  have n1 : Hid True := trivial
  have n2 : Hid True := trivial
  have n3 : Hid True := trivial
  have B0 := hid (st_new w)
  go_enter Try.func13, Try.ntmps13
  go_wp2_with (first
    | (go_at_call 43; have := n1; have := H6; refine (gen12 _ _).mono ?_; rintro e wp1 ⟨rfl, bp1⟩; have B0 := hid ((B0.out.stays (bl_tr (bl_alloc (Below.refl _ _) _) bp1)).addA (Arr.stays (T := 26) (cur := [.int .i64 1, .int .i64 4, .int .i64 0, .slice a6 2 c6]) ⟨heap_alloc_at _ _⟩ bp1)); have B0 := hid (B0.out.addT (H6.out.below (bl_tr (bl_alloc (Below.refl _ _) _) bp1))); clear bp1 n1)
    | (go_at_call 43; have := n2; have := H9; refine (gen12 _ _).mono ?_; rintro e wp2 ⟨rfl, bp2⟩; have B0 := hid ((B0.out.stays (bl_tr (bl_alloc (Below.refl _ _) _) bp2)).addA (Arr.stays (T := 24) (cur := [.int .i64 4, .int .i64 0, .slice a9 2 c9]) ⟨heap_alloc_at _ _⟩ bp2)); have B0 := hid (B0.out.addT (H9.out.below (bl_tr (bl_alloc (Below.refl _ _) _) bp2))); clear bp2 n2)
    | (go_at_call 44; have := n3; have := H10; refine (int012 _).mono ?_; rintro e wp3 ⟨rfl, bp3⟩; have B0 := hid ((B0.out.stays (bl_tr (bl_alloc (Below.refl _ _) _) bp3)).addA (Arr.stays (T := 26) (cur := [.int .i64 1, .int .i64 4, .int .i64 0, .slice (some ⟨g10, 0, none⟩) 2 2]) ⟨heap_alloc_at _ _⟩ bp3)); have B0 := hid (B0.out.addT (H10.out.below (bl_tr (bl_alloc (Below.refl _ _) _) bp3))); clear bp3 n3)
    | (go_at_call 42; refine (meta12 _ _).mono ?_; rintro e wa ⟨rfl, ba⟩; have B0 := (by first | exact hid (B0.out.stays ba) | exact hid (B0.out.stays (bl_tr (bl_alloc (Below.refl _ _) _) ba)) : Hid (St _ _)); clear ba)
    | (go_at_call 43; refine (gen12 _ _).mono ?_; rintro e wb ⟨rfl, bb⟩; have B0 := (by first | exact hid (B0.out.stays bb) | exact hid (B0.out.stays (bl_tr (bl_alloc (Below.refl _ _) _) bb)) : Hid (St _ _)); clear bb)
    | (go_at_call 44; refine (int012 _).mono ?_; rintro e wc ⟨rfl, bc⟩; have B0 := (by first | exact hid (B0.out.stays bc) | exact hid (B0.out.stays (bl_tr (bl_alloc (Below.refl _ _) _) bc)) : Hid (St _ _)); clear bc)
    | (go_at_call 41; have := m1; refine (fn12 _ 1 1 [.int .i64 7, .int .i64 1, .slice none 0 0] [.int .i64 7, .int .i64 3, .slice none 0 0] _ _ (lf.out _ 7 1 (by decide) (by decide) (by decide) (by decide)) (lf.out _ 7 3 (by decide) (by decide) (by decide) (by decide))).mono ?_; rintro e w4 ⟨g4, rfl, h4, b4⟩; have H4 := hid h4; have B0 := (by first | exact hid (B0.out.stays b4) | exact hid (B0.out.stays (bl_tr (bl_alloc (Below.refl _ _) _) b4)) : Hid (St _ _)); clear h4 b4 m1)
    | (go_at_call 41; have := m2; refine (fn12 _ 1 _ [.int .i64 7, .int .i64 3, .slice none 0 0] _ _ _ (lf.out _ 7 3 (by decide) (by decide) (by decide) (by decide)) H4.out).mono ?_; rintro e w5 ⟨g5, rfl, h5, b5⟩; have H5 := hid h5; have B0 := (by first | exact hid (B0.out.stays b5) | exact hid (B0.out.stays (bl_tr (bl_alloc (Below.refl _ _) _) b5)) : Hid (St _ _)); clear h5 b5 m2)
    | (go_at_call 21; refine (gen_ex _ _ _ _ (H5.out.below (bl_alloc (Below.refl _ _) _)) (ls1 _ _ _)).mono ?_; rintro e w6 ⟨a6, c6, n6, rfl, h6, b6⟩; have H6 := hid h6; have B0 := (by first | exact hid (B0.out.stays b6) | exact hid (B0.out.stays (bl_tr (bl_alloc (Below.refl _ _) _) b6)) : Hid (St _ _)); clear h6 b6)
    | (go_at_call 41; have := m3; refine (fn12 _ 1 1 [.int .i64 8, .int .i64 1, .slice none 0 0] [.int .i64 8, .int .i64 0, .slice none 0 0] _ _ (lf.out _ 8 1 (by decide) (by decide) (by decide) (by decide)) (lf.out _ 8 0 (by decide) (by decide) (by decide) (by decide))).mono ?_; rintro e w7 ⟨g7, rfl, h7, b7⟩; have H7 := hid h7; have B0 := (by first | exact hid (B0.out.stays b7) | exact hid (B0.out.stays (bl_tr (bl_alloc (Below.refl _ _) _) b7)) : Hid (St _ _)); clear h7 b7 m3)
    | (go_at_call 41; have := m4; refine (fn12 _ 1 _ [.int .i64 8, .int .i64 0, .slice none 0 0] _ _ _ (lf.out _ 8 0 (by decide) (by decide) (by decide) (by decide)) H7.out).mono ?_; rintro e w8 ⟨g8, rfl, h8, b8⟩; have H8 := hid h8; have B0 := (by first | exact hid (B0.out.stays b8) | exact hid (B0.out.stays (bl_tr (bl_alloc (Below.refl _ _) _) b8)) : Hid (St _ _)); clear h8 b8 m4)
    | (go_at_call 8; refine (inst_ex _ _ _ H8.out).mono ?_; rintro e w9 ⟨a9, c9, n9, rfl, h9, b9⟩; have H9 := hid h9; have B0 := (by first | exact hid (B0.out.stays b9) | exact hid (B0.out.stays (bl_tr (bl_alloc (Below.refl _ _) _) b9)) : Hid (St _ _)); clear h9 b9)
    | (go_at_call 41; have := m5; refine (fn12 _ 1 1 [.int .i64 8, .int .i64 0, .slice none 0 0] [.int .i64 8, .int .i64 0, .slice none 0 0] _ _ (lf.out _ 8 0 (by decide) (by decide) (by decide) (by decide)) (lf.out _ 8 0 (by decide) (by decide) (by decide) (by decide))).mono ?_; rintro e w10 ⟨g10, rfl, h10, b10⟩; have H10 := hid h10; have B0 := (by first | exact hid (B0.out.stays b10) | exact hid (B0.out.stays (bl_tr (bl_alloc (Below.refl _ _) _) b10)) : Hid (St _ _)); clear h10 b10 m5)
    | (go_at_call 41; have := m6; refine (fn12 _ 1 1 [.int .i64 1, .int .i64 0, .slice none 0 0] [.int .i64 1, .int .i64 0, .slice none 0 0] _ _ (lf.out _ 1 0 (by decide) (by decide) (by decide) (by decide)) (lf.out _ 1 0 (by decide) (by decide) (by decide) (by decide))).mono ?_; rintro e w11 ⟨g11, rfl, h11, b11⟩; have H11 := hid h11; have B0 := (by first | exact hid (B0.out.stays b11) | exact hid (B0.out.stays (bl_tr (bl_alloc (Below.refl _ _) _) b11)) : Hid (St _ _)); clear h11 b11 m6))
  obtain ⟨W1, hW1⟩ : ∃ W1, w11.alloc (.cells #[.int .i64 0, .int .i64 4, .int .i64 0, .slice (some ⟨g11, 0, none⟩) 2 2] 26) = W1 := ⟨_, rfl⟩
  have Z := hid ((B0.out.stays (bl_alloc (Below.refl _ _) (.cells #[.int .i64 0, .int .i64 4, .int .i64 0, .slice (some ⟨g11, 0, none⟩) 2 2] 26))).addA (b := w11.heap.size) (T := 26) (cur := [.int .i64 0, .int .i64 4, .int .i64 0, .slice (some ⟨g11, 0, none⟩) 2 2]) ⟨heap_alloc_at _ _⟩)
  have Z := hid (Z.out.addT (H11.out.below (bl_alloc (Below.refl _ _) _)))
  rw [hW1] at Z ⊢
  obtain ⟨P, b1, b2, b3, b4, e1, e2, e3, e4, ZP, k1, k2, k3, k4, q2, q4, q5, q6, qb⟩ : ∃ (P : World → Prop) (b1 b2 b3 b4 : Nat), b1 = w6.heap.size ∧ b2 = w9.heap.size ∧ b3 = w10.heap.size ∧ b4 = w11.heap.size ∧ Hid (St P W1) ∧ Hid (∀ W, P W → ∀ j : Nat, W.cell? ⟨b1, j, none⟩ = [.int .i64 1, .int .i64 4, .int .i64 0, .slice a6 2 c6][j]?) ∧ Hid (∀ W, P W → ∀ j : Nat, W.cell? ⟨b2, j, none⟩ = [.int .i64 4, .int .i64 0, .slice a9 2 c9][j]?) ∧ Hid (∀ W, P W → ∀ j : Nat, W.cell? ⟨b3, j, none⟩ = [.int .i64 1, .int .i64 4, .int .i64 0, .slice (some ⟨g10, 0, none⟩) 2 2][j]?) ∧ Hid (∀ W, P W → ∀ j : Nat, W.cell? ⟨b4, j, none⟩ = [.int .i64 0, .int .i64 4, .int .i64 0, .slice (some ⟨g11, 0, none⟩) 2 2][j]?) ∧ Hid (∀ W, P W → TAt W Any n6 [.int .i64 4, .int .i64 0, .slice a6 2 c6] X2) ∧ Hid (∀ W, P W → TAt W Any n9 [.int .i64 4, .int .i64 0, .slice a9 2 c9] X4) ∧ Hid (∀ W, P W → TAt W Any (max 1 1 + 1) [.int .i64 4, .int .i64 0, .slice (some ⟨g10, 0, none⟩) 2 2] X5) ∧ Hid (∀ W, P W → TAt W Any (max 1 1 + 1) [.int .i64 4, .int .i64 0, .slice (some ⟨g11, 0, none⟩) 2 2] X6) ∧ Hid (∀ W, P W → Below w.heap.size w W) := by
    refine ⟨_, _, _, _, _, rfl, rfl, rfl, rfl, Z, fun W h => h.1.1.1.1.1.1.1.2.cell, fun W h => h.1.1.1.1.1.2.cell, fun W h => h.1.1.1.2.cell, fun W h => h.1.2.cell, fun W h => h.1.1.1.1.1.1.2, fun W h => h.1.1.1.1.2, fun W h => h.1.1.2, fun W h => h.2, fun W h => h.1.1.1.1.1.1.1.1⟩
  rw [← e1, ← e2, ← e3, ← e4]
  have mkS : Hid (∀ wz, St P wz → (∀ j : Nat, wz.cell? ⟨b1, j, none⟩ = [.int .i64 1, .int .i64 4, .int .i64 0, .slice a6 2 c6][j]?) ∧ (∀ j : Nat, wz.cell? ⟨b2, j, none⟩ = [.int .i64 4, .int .i64 0, .slice a9 2 c9][j]?) ∧ (∀ j : Nat, wz.cell? ⟨b3, j, none⟩ = [.int .i64 1, .int .i64 4, .int .i64 0, .slice (some ⟨g10, 0, none⟩) 2 2][j]?) ∧ (∀ j : Nat, wz.cell? ⟨b4, j, none⟩ = [.int .i64 0, .int .i64 4, .int .i64 0, .slice (some ⟨g11, 0, none⟩) 2 2][j]?) ∧ St P wz) := fun wz h => ⟨k1.out wz h.here, k2.out wz h.here, k3.out wz h.here, k4.out wz h.here, h⟩
  have SA : Hid (∀ wz (n g : Nat), P wz → TAt wz Any n [.int .i64 4, .int .i64 0, .slice (some ⟨g, 0, none⟩) 2 2] X2 → Calls Try.prog 12 #[.agg #[.int .i64 4, .int .i64 0, .slice a6 2 c6], .agg #[.int .i64 4, .int .i64 0, .slice (some ⟨g, 0, none⟩) 2 2]] wz fun e w' => e = .returned (.bool true) ∧ Below wz.heap.size wz w') := fun wz n g h hT => (refSame_any wz _ _ _ _ _ _ (q2.out wz h) hT).mono fun e w' hh => by rw [cmp_self] at hh; exact hh
  have SB : Hid (∀ wz (n g : Nat), P wz → TAt wz Any n [.int .i64 4, .int .i64 0, .slice (some ⟨g, 0, none⟩) 2 2] X4 → Calls Try.prog 12 #[.agg #[.int .i64 4, .int .i64 0, .slice a9 2 c9], .agg #[.int .i64 4, .int .i64 0, .slice (some ⟨g, 0, none⟩) 2 2]] wz fun e w' => e = .returned (.bool true) ∧ Below wz.heap.size wz w') := fun wz n g h hT => (refSame_any wz _ _ _ _ _ _ (q4.out wz h) hT).mono fun e w' hh => by rw [cmp_self] at hh; exact hh
  have AA : Hid (∀ wz, P wz → Calls Try.prog 17 #[.agg #[.int .i64 1, .int .i64 4, .int .i64 0, .slice (some ⟨g10, 0, none⟩) 2 2], .agg #[.int .i64 0, .int .i64 4, .int .i64 0, .slice (some ⟨g11, 0, none⟩) 2 2]] wz fun e w' => e = .returned (.bool true) ∧ Below wz.heap.size wz w') := fun wz h => AtLeast_any wz _ _ 1 0 _ _ _ _ (q5.out wz h) (q6.out wz h) x5_cnt x6_cnt true ⟨fun _ => x56, fun _ => rfl⟩
  have AB : Hid (∀ wz, P wz → Calls Try.prog 17 #[.agg #[.int .i64 0, .int .i64 4, .int .i64 0, .slice (some ⟨g11, 0, none⟩) 2 2], .agg #[.int .i64 1, .int .i64 4, .int .i64 0, .slice (some ⟨g10, 0, none⟩) 2 2]] wz fun e w' => e = .returned (.bool false) ∧ Below wz.heap.size wz w') := fun wz h => AtLeast_any wz _ _ 0 1 _ _ _ _ (q6.out wz h) (q5.out wz h) x6_cnt x5_cnt false ⟨fun h => absurd h Bool.false_ne_true, fun h => absurd h x65⟩
  have hs0 := hid (mkS.out _ (ZP.out.stays (Below.refl _ _).drew))
  have m1 : Hid True := trivial
  have m2 : Hid True := trivial
  have m3 : Hid True := trivial
  have m4 : Hid True := trivial
  have m5 : Hid True := trivial
  have m6 : Hid True := trivial
  have n1 : Hid True := trivial
  have n2 : Hid True := trivial
  clear Z e1 e2 e3 e4 hW1 k1 k2 k3 k4 q2 q4 q5 q6 B0 H4 H5 H6 H7 H8 H9 H10 H11
  go_region_held (fun w' => (∀ j : Nat, w'.cell? ⟨b1, j, none⟩ = [.int .i64 1, .int .i64 4, .int .i64 0, .slice a6 2 c6][j]?) ∧ (∀ j : Nat, w'.cell? ⟨b2, j, none⟩ = [.int .i64 4, .int .i64 0, .slice a9 2 c9][j]?) ∧ (∀ j : Nat, w'.cell? ⟨b3, j, none⟩ = [.int .i64 1, .int .i64 4, .int .i64 0, .slice (some ⟨g10, 0, none⟩) 2 2][j]?) ∧ (∀ j : Nat, w'.cell? ⟨b4, j, none⟩ = [.int .i64 0, .int .i64 4, .int .i64 0, .slice (some ⟨g11, 0, none⟩) 2 2][j]?) ∧ St P w') (first | exact hs0.out | exact mkS.out _ ((stT (by assumption)).stays (by assumption))) (first
    | (go_at_call 42; refine (meta12 _ _).mono ?_; rintro e wa ⟨rfl, ba⟩)
    | (go_at_call 43; refine (gen12 _ _).mono ?_; rintro e wb ⟨rfl, bb⟩)
    | (go_at_call 41; have := m1; refine (fn12 _ 1 1 [.int .i64 7, .int .i64 1, .slice none 0 0] [.int .i64 8, .int .i64 0, .slice none 0 0] _ _ (lf.out _ 7 1 (by decide) (by decide) (by decide) (by decide)) (lf.out _ 8 0 (by decide) (by decide) (by decide) (by decide))).mono ?_; rintro e w21 ⟨g21, rfl, h21, b21⟩; have H21 := hid h21; clear h21 m1)
    | (go_at_call 41; have := m2; refine (fn12 _ 1 _ [.int .i64 8, .int .i64 0, .slice none 0 0] _ _ _ (lf.out _ 8 0 (by decide) (by decide) (by decide) (by decide)) H21.out).mono ?_; rintro e w22 ⟨g22, rfl, h22, b22⟩; have H22 := hid h22; clear h22 m2)
    | (go_at_call 12; have := m5; refine (SA.out _ _ _ (stS (by assumption)) H22.out).mono ?_; rintro e w23 ⟨rfl, b23⟩; clear m5)
    | (go_at_call 41; have := m3; refine (fn12 _ 1 1 [.int .i64 7, .int .i64 8, .slice none 0 0] [.int .i64 7, .int .i64 7, .slice none 0 0] _ _ (lf.out _ 7 8 (by decide) (by decide) (by decide) (by decide)) (lf.out _ 7 7 (by decide) (by decide) (by decide) (by decide))).mono ?_; rintro e w24 ⟨g24, rfl, h24, b24⟩; have H24 := hid h24; clear h24 m3)
    | (go_at_call 41; have := m4; refine (fn12 _ 1 _ [.int .i64 7, .int .i64 7, .slice none 0 0] _ _ _ (lf.out _ 7 7 (by decide) (by decide) (by decide) (by decide)) H24.out).mono ?_; rintro e w25 ⟨g25, rfl, h25, b25⟩; have H25 := hid h25; clear h25 m4)
    | (go_at_call 12; have := m6; refine (SB.out _ _ _ (stS (by assumption)) H25.out).mono ?_; rintro e w26 ⟨rfl, b26⟩; clear m6)
    | (go_at_call 17; have := n1; refine (AA.out _ (stS (by assumption))).mono ?_; rintro e w27 ⟨rfl, b27⟩; clear n1)
    | (go_at_call 17; have := n2; refine (AB.out _ (stS (by assumption))).mono ?_; rintro e w28 ⟨rfl, b28⟩; clear n2))
  all_goals have HE := hid (qb.out _ (stS (by assumption)))
  all_goals go_wp2
  all_goals go_ret
  all_goals exact ⟨rfl, HE.out⟩
end Go.Proofs.Ythijckdhndbdoaa
