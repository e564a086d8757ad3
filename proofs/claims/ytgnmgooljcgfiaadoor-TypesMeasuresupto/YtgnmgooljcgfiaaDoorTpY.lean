/- alive: the chapter's examples come. -/
import Derived.Test.YtgnmgooljcgfiaaDoorTpJ
import Derived.Test.YtgnmgooljcgfiaaDoorTpL
import Derived.Test.YtgnmgooljcgfiaaDoorTpR
import Derived.Test.YtgnmgooljcgfiaaDoorTpT4
namespace Go.Proofs.YtgnmgooljcgfiaaDoor
open Go.RowKit
set_option linter.unusedVariables false
set_option linter.unusedSimpArgs false

/-- A value that is the type t. -/
def Tv (w : World) (t : Tp) (v : Value) : Prop := ∃ a c n, v = .agg #[.int .i64 t.k, .int .i64 t.n, .slice a t.ks.length c] ∧ TAt w Any n [.int .i64 t.k, .int .i64 t.n, .slice a t.ks.length c] t
theorem Tv.stays {w w' : World} {t : Tp} {v : Value} (h : Tv w t v) (hb : Below w.heap.size w w') : Tv w' t v := by
  obtain ⟨a, c, n, h1, h2⟩ := h
  exact ⟨a, c, n, h1, h2.below hb⟩
def Gives (w : World) (t : Tp) (e : Ending) (w' : World) : Prop := ∃ v, e = .returned v ∧ Tv w' t v ∧ Below w.heap.size w w'
theorem r64_small {n : Int} (h0 : 0 ≤ n) (h1 : n ≤ 1000) : R64 n := ⟨by omega, by omega⟩
theorem kind_g (w : World) (k : Int) (hk : R64 k) : Calls Tryd.prog 35 #[.int .i64 k] w fun e w' => e = .returned (.agg #[.int .i64 k, .int .i64 0, .slice none 0 0]) ∧ TAt w' Any 1 [.int .i64 k, .int .i64 0, .slice none 0 0] (.mk k 0 []) ∧ Below w.heap.size w w' :=
  (kind_any w k).mono fun e w' ⟨h1, h2⟩ => ⟨h1, TAt.leaf _ _ _ _ hk ⟨by decide, by decide⟩, h2⟩
theorem stamp_g (w : World) (n : Int) (hn : R64 n) : Calls Tryd.prog 36 #[.int .i64 n] w fun e w' => e = .returned (.agg #[.int .i64 6, .int .i64 n, .slice none 0 0]) ∧ TAt w' Any 1 [.int .i64 6, .int .i64 n, .slice none 0 0] (.mk 6 n []) ∧ Below w.heap.size w w' :=
  (stamp_any w n).mono fun e w' ⟨h1, h2⟩ => ⟨h1, TAt.leaf _ _ _ _ ⟨by decide, by decide⟩ hn, h2⟩
def Tp.exT : Tp := .mk 4 0 [.mk 4 0 [.mk 1 0 [], .mk 2 0 []], .mk 5 0 [.mk 3 0 [], .mk 6 3 []]]
def Tp.exU : Tp := .mk 4 0 [.mk 6 2 [], .mk 1 0 []]
theorem Tp.exU_repl : Tp.repl 6 [1, 2] [.mk 6 2 [], .mk 1 0 []] (.mk 4 0 [.mk 6 1 [], .mk 6 2 []]) = (Tp.exU, 0) := by
  simp [Tp.repl, Tp.put, Tp.putL, Tp.by, Tp.idx, Tp.cnt, Tp.cntL, Tp.exU]
theorem Tp.exT_text : Tp.exT.text = [40, 105, 110, 116, 32, 45, 62, 32, 98, 111, 111, 108, 41, 32, 45, 62, 32, 117, 110, 105, 116, 32, 42, 32, 35, 51] := by
  have h3 : Lib.itoa 3 = [51] := by unfold Lib.itoa; rw [if_neg (by decide), Lib.decDigits]; rfl
  simp [Tp.exT, Tp.text, Tp.textL, Tp.textOf, Tp.leaf, Tp.wrap, Tp.level, Tp.k, Tp.ks, h3]
theorem Tp.gen_text : (Tp.mk 8 26 []).text = [39, 97, 49] := by
  have h1 : Lib.itoa 1 = [49] := by unfold Lib.itoa; rw [if_neg (by decide), Lib.decDigits]; rfl
  simp [Tp.text, Tp.textL, Tp.textOf, Tp.leaf, Tp.gen, h1]
theorem Tp.exT_cnt : Tp.upto Tp.exT.cnt = (7, true) := by simp [Tp.exT, Tp.cnt, Tp.cntL, Tp.upto]
theorem Tp.exT_right : Tp.exT.right = true := by simp [Tp.exT, Tp.right, Tp.rightL, Tp.own]
theorem Tp.exU_cmp : (Tp.cmp Tp.exU (.mk 4 0 [.mk 6 2 [], .mk 1 0 []]) == 0) = true := by simp [Tp.exU, Tp.cmp, Tp.cmpL, Tp.or, Tp.num]

theorem ls2 (w : World) (a b : Int) (T : TypeId) : Ls (w.alloc (.cells #[.int .i64 a, .int .i64 b] T)) Any (.slice (some ⟨w.heap.size, 0, none⟩) 2 2) [a, b] := by
  refine .inl ⟨w.heap.size, 0, 2, rfl, trivial, (show 2 ≤ 2 by decide), (show 2 ≤ maxLen by decide), fun j x hx => ?_⟩
  have hh := heap_alloc_at w (.cells #[.int .i64 a, .int .i64 b] T)
  match j, hx with
  | 0, hx => simp at hx; subst hx; rw [cell_at hh]; rfl
  | 1, hx => simp at hx; subst hx; rw [cell_at hh]; rfl
  | j + 2, hx => simp at hx
theorem rep_ex (W : World) (n m : Nat) (g : Nat) (fv tv : Value) (hT : TAt W Any n [.int .i64 4, .int .i64 0, .slice (some ⟨g, 0, none⟩) 2 2] (.mk 4 0 [.mk 6 1 [], .mk 6 2 []])) (hf : Ls W Any fv [1, 2]) (ht : TAtL W Any m tv [.mk 6 2 [], .mk 1 0 []]) :
    Calls Tryd.prog 37 #[.agg #[.int .i64 4, .int .i64 0, .slice (some ⟨g, 0, none⟩) 2 2], .int .i64 6, fv, tv] W fun e w' => ∃ a c n', e = .returned (.tuple #[.agg #[.int .i64 4, .int .i64 0, .slice a 2 c], .int .i64 0]) ∧ TAt w' Any n' [.int .i64 4, .int .i64 0, .slice a 2 c] Tp.exU ∧ Below W.heap.size W w' := by
  refine (Replace_any W n m _ _ 6 fv tv _ _ hT hf ht).mono ?_
  rintro e w' ⟨vs', n', rfl, h1, h2⟩
  rw [Tp.exU_repl] at h1 ⊢
  obtain ⟨a, c, rfl⟩ := h1.form
  exact ⟨a, c, n', rfl, h1.any, h2⟩
theorem als_bl {W1 : World} {g1 g2 gT : Nat} {aU : Option Addr} {cU : Nat} {w' : World} (h : w'.cell? ⟨g1, 0, none⟩ = some (.int .i64 4) ∧ w'.cell? ⟨g1, 1, none⟩ = some (.int .i64 0) ∧ w'.cell? ⟨g1, 2, none⟩ = some (.slice (some ⟨gT, 0, none⟩) 2 2) ∧ w'.cell? ⟨g2, 0, none⟩ = some (.int .i64 4) ∧ w'.cell? ⟨g2, 1, none⟩ = some (.int .i64 0) ∧ w'.cell? ⟨g2, 2, none⟩ = some (.slice aU 2 cU) ∧ Below W1.heap.size W1 w') : Below W1.heap.size W1 w' := h.2.2.2.2.2.2
theorem als_keep {W1 : World} {g1 g2 gT : Nat} {aU : Option Addr} {cU : Nat} {w' w'' : World} (hb : Below w'.heap.size w' w'') (h : w'.cell? ⟨g1, 0, none⟩ = some (.int .i64 4) ∧ w'.cell? ⟨g1, 1, none⟩ = some (.int .i64 0) ∧ w'.cell? ⟨g1, 2, none⟩ = some (.slice (some ⟨gT, 0, none⟩) 2 2) ∧ w'.cell? ⟨g2, 0, none⟩ = some (.int .i64 4) ∧ w'.cell? ⟨g2, 1, none⟩ = some (.int .i64 0) ∧ w'.cell? ⟨g2, 2, none⟩ = some (.slice aU 2 cU) ∧ Below W1.heap.size W1 w') : w''.cell? ⟨g1, 0, none⟩ = some (.int .i64 4) ∧ w''.cell? ⟨g1, 1, none⟩ = some (.int .i64 0) ∧ w''.cell? ⟨g1, 2, none⟩ = some (.slice (some ⟨gT, 0, none⟩) 2 2) ∧ w''.cell? ⟨g2, 0, none⟩ = some (.int .i64 4) ∧ w''.cell? ⟨g2, 1, none⟩ = some (.int .i64 0) ∧ w''.cell? ⟨g2, 2, none⟩ = some (.slice aU 2 cU) ∧ Below W1.heap.size W1 w'' :=
  have hk : ∀ p v, w'.cell? p = some v → w''.cell? p = some v := fun p v hv => (hb.cell (World.block_lt_of_cell? w' _ hv)).trans hv
  ⟨hk _ _ h.1, hk _ _ h.2.1, hk _ _ h.2.2.1, hk _ _ h.2.2.2.1, hk _ _ h.2.2.2.2.1, hk _ _ h.2.2.2.2.2.1, bl_tr h.2.2.2.2.2.2 hb⟩

set_option maxHeartbeats 8000000 in
set_option maxRecDepth 100000 in
theorem alive_any (w : World) (hW : Tab w) : Calls Tryd.prog 21 #[] w fun e w' => e = .returned (.bool true) ∧ Below w.heap.size w w' := by
  have HW : Hid (Tab w) := hW
  clear hW
  have m0 := True.intro
  go_enter Tryd.func21, Tryd.ntmps21
  go_wp2_with (first | (go_at_call 35; have := m0; refine (kind_g _ 1 (r64_small (by decide) (by decide))).mono ?_; rintro e w1 ⟨rfl, t1, b1⟩; clear m0; have m1 := True.intro) | (go_at_call 35; have := m1; refine (kind_g _ 2 (r64_small (by decide) (by decide))).mono ?_; rintro e w2 ⟨rfl, t2, b2⟩; clear m1; have m2 := True.intro) | (go_at_call 34; have := m2; refine (two_any _ 4 (r64_small (by decide) (by decide)) _ _ (.mk 1 0 []) (.mk 2 0 []) _ _ _ _ (t1.below b2) t2).mono ?_; rintro e w3 ⟨gA, rfl, tA, b3⟩; clear m2; have m3 := True.intro) | (go_at_call 35; have := m3; refine (kind_g _ 3 (r64_small (by decide) (by decide))).mono ?_; rintro e w4 ⟨rfl, t3, b4⟩; clear m3; have m4 := True.intro) | (go_at_call 36; have := m4; refine (stamp_g _ 3 (r64_small (by decide) (by decide))).mono ?_; rintro e w5 ⟨rfl, t4, b5⟩; clear m4; have m5 := True.intro) | (go_at_call 34; have := m5; refine (two_any _ 5 (r64_small (by decide) (by decide)) _ _ (.mk 3 0 []) (.mk 6 3 []) _ _ _ _ (t3.below b5) t4).mono ?_; rintro e w6 ⟨gB, rfl, tB, b6⟩; clear m5; have m6 := True.intro) | (go_at_call 34; have := m6; refine (two_any _ 4 (r64_small (by decide) (by decide)) _ _ (.mk 4 0 [.mk 1 0 [], .mk 2 0 []]) (.mk 5 0 [.mk 3 0 [], .mk 6 3 []]) _ _ _ _ (((tA.below b4).below b5).below b6) tB).mono ?_; rintro e w7 ⟨gT, rfl, tT, b7⟩; have B7 : Hid (Below w.heap.size w w7) := bl_tr (bl_tr (bl_tr (bl_tr (bl_tr (bl_tr b1 b2) b3) b4) b5) b6) b7; have TT : Hid (TAt w7 Any 3 [.int .i64 4, .int .i64 0, .slice (some ⟨gT, 0, none⟩) 2 2] Tp.exT) := tT; clear t1 t2 t3 t4 tA tB tT b1 b2 b3 b4 b5 b6 b7; clear m6; have m7 := True.intro) | (go_at_call 36; have := m7; refine (stamp_g _ 1 (r64_small (by decide) (by decide))).mono ?_; rintro e w8 ⟨rfl, t5, b8⟩; clear m7; have m8 := True.intro) | (go_at_call 36; have := m8; refine (stamp_g _ 2 (r64_small (by decide) (by decide))).mono ?_; rintro e w9 ⟨rfl, t6, b9⟩; clear m8; have m9 := True.intro) | (go_at_call 34; have := m9; refine (two_any _ 4 (r64_small (by decide) (by decide)) _ _ (.mk 6 1 []) (.mk 6 2 []) _ _ _ _ (t5.below b9) t6).mono ?_; rintro e w10 ⟨gC, rfl, tC, b10⟩; have B10 : Hid (Below w7.heap.size w7 w10) := bl_tr (bl_tr (bl_tr (bl_alloc (Below.refl _ _) _) b8) b9) b10; have X7 : Hid (Arr w10 w7.heap.size 24 [.int .i64 4, .int .i64 0, .slice (some ⟨gT, 0, none⟩) 2 2]) := ((Arr.stays (⟨heap_alloc_at _ _⟩) b8).stays b9).stays b10; have TC : Hid (TAt w10 Any 2 [.int .i64 4, .int .i64 0, .slice (some ⟨gC, 0, none⟩) 2 2] (.mk 4 0 [.mk 6 1 [], .mk 6 2 []])) := tC; clear t5 t6 tC b8 b9 b10; clear m9; have m10 := True.intro) | (go_at_call 36; have := m10; refine (stamp_g _ 2 (r64_small (by decide) (by decide))).mono ?_; rintro e w11 ⟨rfl, t7, b11⟩; have F11 : Hid (Ls w11 Any (.slice (some ⟨w10.heap.size, 0, none⟩) 2 2) [1, 2]) := (ls2 _ _ _ _).below b11; have B11 : Hid (Below w10.heap.size w10 w11) := bl_tr (bl_alloc (Below.refl _ _) _) b11; clear b11; clear m10; have m11 := True.intro) | (go_at_call 35; have := m11; refine (kind_g _ 1 (r64_small (by decide) (by decide))).mono ?_; rintro e w12 ⟨rfl, t8, b12⟩; have P12 : Hid (∀ T, TAtL (w12.alloc (.cells #[.int .i64 6, .int .i64 2, .slice none 0 0, .int .i64 1, .int .i64 0, .slice none 0 0] T)) Any (max 1 1) (.slice (some ⟨w12.heap.size, 0, none⟩) 2 2) [.mk 6 2 [], .mk 1 0 []]) := fun T => TAtL.pair (a := .mk 6 2 []) (b := .mk 1 0 []) (t7.below b12) t8 T trivial; have B12 : Hid (Below w11.heap.size w11 w12) := b12; clear t7 t8 b12; clear m11; have m12 := True.intro) | (go_at_call 37; have := m12; refine (rep_ex _ _ _ _ _ _ ((TC.out.below B11.out).below B12.out |>.below (bl_alloc (Below.refl _ _) _)) ((F11.out.below B12.out).below (bl_alloc (Below.refl _ _) _)) (P12.out _)).mono ?_; rintro e w13 ⟨aU, cU, nU, rfl, tU, b13⟩; have B13 : Hid (Below w10.heap.size w10 w13) := bl_tr (bl_tr B11.out B12.out) (bl_tr (bl_alloc (Below.refl _ _) _) b13); have TU : Hid (TAt w13 Any nU [.int .i64 4, .int .i64 0, .slice aU 2 cU] Tp.exU) := tU; clear tU b13 P12 F11 B11 B12 TC; clear m12; have m13 := True.intro))
  have X1 : Arr (w13.alloc (.cells #[.int .i64 4, .int .i64 0, .slice aU 2 cU] 24)) w7.heap.size 24 [.int .i64 4, .int .i64 0, .slice (some ⟨gT, 0, none⟩) 2 2] := (X7.out.stays B13.out).stays (bl_alloc (Below.refl _ _) _)
  have X2 : Arr (w13.alloc (.cells #[.int .i64 4, .int .i64 0, .slice aU 2 cU] 24)) w13.heap.size 24 [.int .i64 4, .int .i64 0, .slice aU 2 cU] := ⟨heap_alloc_at _ _⟩
  have BW : Hid (Below w.heap.size w (w13.alloc (.cells #[.int .i64 4, .int .i64 0, .slice aU 2 cU] 24))) := bl_alloc (bl_tr (bl_tr B7.out B10.out) B13.out) _
  have TT1 : Hid (TAt (w13.alloc (.cells #[.int .i64 4, .int .i64 0, .slice aU 2 cU] 24)) Any 3 [.int .i64 4, .int .i64 0, .slice (some ⟨gT, 0, none⟩) 2 2] Tp.exT) := ((TT.out.below B10.out).below B13.out).below (bl_alloc (Below.refl _ _) _)
  have TU1 : Hid (TAt (w13.alloc (.cells #[.int .i64 4, .int .i64 0, .slice aU 2 cU] 24)) Any nU [.int .i64 4, .int .i64 0, .slice aU 2 cU] Tp.exU) := TU.out.below (bl_alloc (Below.refl _ _) _)
  generalize w13.alloc (.cells #[.int .i64 4, .int .i64 0, .slice aU 2 cU] 24) = W1 at X1 X2 BW TT1 TU1 ⊢
  have hs0 : Hid (W1.drew.cell? ⟨w7.heap.size, 0, none⟩ = some (.int .i64 4) ∧ W1.drew.cell? ⟨w7.heap.size, 1, none⟩ = some (.int .i64 0) ∧ W1.drew.cell? ⟨w7.heap.size, 2, none⟩ = some (.slice (some ⟨gT, 0, none⟩) 2 2) ∧ W1.drew.cell? ⟨w13.heap.size, 0, none⟩ = some (.int .i64 4) ∧ W1.drew.cell? ⟨w13.heap.size, 1, none⟩ = some (.int .i64 0) ∧ W1.drew.cell? ⟨w13.heap.size, 2, none⟩ = some (.slice aU 2 cU) ∧ Below W1.heap.size W1 W1.drew) := ⟨X1.cell 0, X1.cell 1, X1.cell 2, X2.cell 0, X2.cell 1, X2.cell 2, (Below.refl _ _).drew⟩
  have q1 : Hid (∀ w', (w'.cell? ⟨w7.heap.size, 0, none⟩ = some (.int .i64 4) ∧ w'.cell? ⟨w7.heap.size, 1, none⟩ = some (.int .i64 0) ∧ w'.cell? ⟨w7.heap.size, 2, none⟩ = some (.slice (some ⟨gT, 0, none⟩) 2 2) ∧ w'.cell? ⟨w13.heap.size, 0, none⟩ = some (.int .i64 4) ∧ w'.cell? ⟨w13.heap.size, 1, none⟩ = some (.int .i64 0) ∧ w'.cell? ⟨w13.heap.size, 2, none⟩ = some (.slice aU 2 cU) ∧ Below W1.heap.size W1 w') → Calls Tryd.prog 19 #[.agg #[.int .i64 4, .int .i64 0, .slice (some ⟨gT, 0, none⟩) 2 2]] w' fun e w'' => e = .returned (.string ⟨#[40, 105, 110, 116, 32, 45, 62, 32, 98, 111, 111, 108, 41, 32, 45, 62, 32, 117, 110, 105, 116, 32, 42, 32, 35, 51]⟩) ∧ Below w'.heap.size w' w'') := fun w' h => by
    have := Text_any w' (HW.out.stays (bl_tr BW.out h.2.2.2.2.2.2)) 3 _ Tp.exT (TT1.out.below h.2.2.2.2.2.2) (by rw [Tp.exT_text]; decide)
    rw [Tp.exT_text] at this
    exact this
  have q3 : Hid (∀ w' n v, (w'.cell? ⟨w7.heap.size, 0, none⟩ = some (.int .i64 4) ∧ w'.cell? ⟨w7.heap.size, 1, none⟩ = some (.int .i64 0) ∧ w'.cell? ⟨w7.heap.size, 2, none⟩ = some (.slice (some ⟨gT, 0, none⟩) 2 2) ∧ w'.cell? ⟨w13.heap.size, 0, none⟩ = some (.int .i64 4) ∧ w'.cell? ⟨w13.heap.size, 1, none⟩ = some (.int .i64 0) ∧ w'.cell? ⟨w13.heap.size, 2, none⟩ = some (.slice aU 2 cU) ∧ Below W1.heap.size W1 w') → TAt w' Any n [.int .i64 4, .int .i64 0, v] (.mk 4 0 [.mk 6 2 [], .mk 1 0 []]) → Calls Tryd.prog 38 #[.agg #[.int .i64 4, .int .i64 0, .slice aU 2 cU], .agg #[.int .i64 4, .int .i64 0, v]] w' fun e w'' => e = .returned (.bool true) ∧ Below w'.heap.size w' w'') := fun w' n v h ht => by
    have := Same_any w' nU n _ _ Tp.exU _ (TU1.out.below h.2.2.2.2.2.2) ht
    rw [Tp.exU_cmp] at this
    exact this
  have q4 : Hid (∀ w', (w'.cell? ⟨w7.heap.size, 0, none⟩ = some (.int .i64 4) ∧ w'.cell? ⟨w7.heap.size, 1, none⟩ = some (.int .i64 0) ∧ w'.cell? ⟨w7.heap.size, 2, none⟩ = some (.slice (some ⟨gT, 0, none⟩) 2 2) ∧ w'.cell? ⟨w13.heap.size, 0, none⟩ = some (.int .i64 4) ∧ w'.cell? ⟨w13.heap.size, 1, none⟩ = some (.int .i64 0) ∧ w'.cell? ⟨w13.heap.size, 2, none⟩ = some (.slice aU 2 cU) ∧ Below W1.heap.size W1 w') → Calls Tryd.prog 6 #[.agg #[.int .i64 4, .int .i64 0, .slice (some ⟨gT, 0, none⟩) 2 2]] w' fun e w'' => e = .returned (.int .i64 7) ∧ Below w'.heap.size w' w'') := fun w' h => by
    have := Size_any w' 3 _ Tp.exT (TT1.out.below h.2.2.2.2.2.2)
    rw [Tp.exT_cnt] at this
    exact this
  have q5 : Hid (∀ w', (w'.cell? ⟨w7.heap.size, 0, none⟩ = some (.int .i64 4) ∧ w'.cell? ⟨w7.heap.size, 1, none⟩ = some (.int .i64 0) ∧ w'.cell? ⟨w7.heap.size, 2, none⟩ = some (.slice (some ⟨gT, 0, none⟩) 2 2) ∧ w'.cell? ⟨w13.heap.size, 0, none⟩ = some (.int .i64 4) ∧ w'.cell? ⟨w13.heap.size, 1, none⟩ = some (.int .i64 0) ∧ w'.cell? ⟨w13.heap.size, 2, none⟩ = some (.slice aU 2 cU) ∧ Below W1.heap.size W1 w') → Calls Tryd.prog 4 #[.agg #[.int .i64 4, .int .i64 0, .slice (some ⟨gT, 0, none⟩) 2 2]] w' fun e w'' => e = .returned (.bool true) ∧ Below w'.heap.size w' w'') := fun w' h => by
    have := Right_any w' 3 _ Tp.exT (TT1.out.below h.2.2.2.2.2.2)
    rw [Tp.exT_right] at this
    exact this
  have q6 : Hid (∀ w', (w'.cell? ⟨w7.heap.size, 0, none⟩ = some (.int .i64 4) ∧ w'.cell? ⟨w7.heap.size, 1, none⟩ = some (.int .i64 0) ∧ w'.cell? ⟨w7.heap.size, 2, none⟩ = some (.slice (some ⟨gT, 0, none⟩) 2 2) ∧ w'.cell? ⟨w13.heap.size, 0, none⟩ = some (.int .i64 4) ∧ w'.cell? ⟨w13.heap.size, 1, none⟩ = some (.int .i64 0) ∧ w'.cell? ⟨w13.heap.size, 2, none⟩ = some (.slice aU 2 cU) ∧ Below W1.heap.size W1 w') → Calls Tryd.prog 19 #[.agg #[.int .i64 8, .int .i64 26, .slice none 0 0]] w' fun e w'' => e = .returned (.string ⟨#[39, 97, 49]⟩) ∧ Below w'.heap.size w' w'') := fun w' h => by
    have := Text_any w' (HW.out.stays (bl_tr BW.out h.2.2.2.2.2.2)) 1 _ (.mk 8 26 []) (TAt.leaf _ _ _ _ ⟨by decide, by decide⟩ ⟨by decide, by decide⟩) (by rw [Tp.gen_text]; decide)
    rw [Tp.gen_text] at this
    exact this
  clear X1 X2 X7 TT TU TT1 TU1 B7 B10 B13
  go_region_held (fun w' => w'.cell? ⟨w7.heap.size, 0, none⟩ = some (.int .i64 4) ∧ w'.cell? ⟨w7.heap.size, 1, none⟩ = some (.int .i64 0) ∧ w'.cell? ⟨w7.heap.size, 2, none⟩ = some (.slice (some ⟨gT, 0, none⟩) 2 2) ∧ w'.cell? ⟨w13.heap.size, 0, none⟩ = some (.int .i64 4) ∧ w'.cell? ⟨w13.heap.size, 1, none⟩ = some (.int .i64 0) ∧ w'.cell? ⟨w13.heap.size, 2, none⟩ = some (.slice aU 2 cU) ∧ Below W1.heap.size W1 w') (first | exact hs0.out | exact als_keep (by assumption) (by assumption)) (first | (go_at_call 19; refine (q1.out _ (by assumption)).mono ?_; rintro e wa ⟨rfl, ba⟩; clear q1) | (go_at_call 36; refine (stamp_any _ 2).mono ?_; rintro e wb ⟨rfl, bb⟩) | (go_at_call 35; refine (kind_any _ 1).mono ?_; rintro e wc ⟨rfl, bc⟩) | (go_at_call 34; refine (two_any _ 4 (r64_small (by decide) (by decide)) 1 1 (.mk 6 2 []) (.mk 1 0 []) none 0 none 0 (TAt.leaf _ _ _ _ ⟨by decide, by decide⟩ ⟨by decide, by decide⟩) (TAt.leaf _ _ _ _ ⟨by decide, by decide⟩ ⟨by decide, by decide⟩)).mono ?_; rintro e wd ⟨gD, rfl, tD, bd⟩; have TD : Hid (TAt wd Any 2 [.int .i64 4, .int .i64 0, .slice (some ⟨gD, 0, none⟩) 2 2] (.mk 4 0 [.mk 6 2 [], .mk 1 0 []])) := tD; clear tD) | (go_at_call 38; refine (q3.out _ _ _ (by assumption) TD.out).mono ?_; rintro e we ⟨rfl, be⟩) | (go_at_call 6; refine (q4.out _ (by assumption)).mono ?_; rintro e wf ⟨rfl, bf⟩) | (go_at_call 4; refine (q5.out _ (by assumption)).mono ?_; rintro e wg ⟨rfl, bg⟩) | (go_at_call 19; refine (q6.out _ (by assumption)).mono ?_; rintro e wh ⟨rfl, bh⟩))
  all_goals go_wp2
  all_goals go_ret
  all_goals exact ⟨rfl, bl_tr BW.out (als_bl (by assumption))⟩
end Go.Proofs.YtgnmgooljcgfiaaDoor
