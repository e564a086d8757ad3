/- TransFree: the walk. TransFree of any input. -/
import Derived.Deep.QuietTactic
import Derived.Deep.Cut
import Derived.Deep.CutRange
import Derived.Deep.RegionHeld
import Derived.Test.YtigliglmejkakaaGreatRbm
namespace Go.Proofs.YtigliglmejkakaaGreat
open Go.RowKit
set_option linter.unusedVariables false
set_option linter.unusedSimpArgs false

/-- The law's three boxes. -/
structure F14 (w : World) (k0 n0 g1 k1 n1 : Int) (a0 a1 ua : Option Addr) (m0 c0 m1 c1 uc : Nat) (v0 v1 v2 v3 v4 : Value) (l : List Int) (W : World) : Prop where
  bl : Below w.heap.size w W
  x0 : Arr W w.heap.size 24 [.int .i64 k0, .int .i64 n0, .slice a0 m0 c0]
  x1 : Arr W (w.heap.size + 1) 42 [.int .i64 g1, .int .i64 k1, .int .i64 n1, .slice a1 m1 c1]
  x2 : Arr W (w.heap.size + 1 + 1) 51 [.slice ua l.length uc, v0, v1, v2, v3, v4]
theorem F14.stays {w : World} {k0 n0 g1 k1 n1 : Int} {a0 a1 ua : Option Addr} {m0 c0 m1 c1 uc : Nat} {v0 v1 v2 v3 v4 : Value} {l : List Int} {W W' : World} (h : F14 w k0 n0 g1 k1 n1 a0 a1 ua m0 c0 m1 c1 uc v0 v1 v2 v3 v4 l W) (hb : Below W.heap.size W W') : F14 w k0 n0 g1 k1 n1 a0 a1 ua m0 c0 m1 c1 uc v0 v1 v2 v3 v4 l W' := ⟨bl_tr h.bl hb, h.x0.stays hb, h.x1.stays hb, h.x2.stays hb⟩
theorem keepF {w : World} {k0 n0 g1 k1 n1 : Int} {a0 a1 ua : Option Addr} {m0 c0 m1 c1 uc : Nat} {v0 v1 v2 v3 v4 : Value} {l : List Int} {B B' : Nat} {T T' : TypeId} {cur cur' : List Value} {W W' : World} (hb : Below W.heap.size W W') (h : F14 w k0 n0 g1 k1 n1 a0 a1 ua m0 c0 m1 c1 uc v0 v1 v2 v3 v4 l W ∧ Arr W B T cur ∧ Arr W B' T' cur') : F14 w k0 n0 g1 k1 n1 a0 a1 ua m0 c0 m1 c1 uc v0 v1 v2 v3 v4 l W' ∧ Arr W' B T cur ∧ Arr W' B' T' cur' := ⟨h.1.stays hb, h.2.1.stays hb, h.2.2.stays hb⟩
/-- What is known of a world, and stays. -/
structure St (P : World → Prop) (W : World) : Prop where
  here : P W
  st : ∀ W W', P W → Below W.heap.size W W' → P W'
theorem St.stays {P : World → Prop} {W W' : World} (h : St P W) (hb : Below W.heap.size W W') : St P W' := ⟨h.st _ _ h.here hb, h.st⟩
theorem st2F {P : World → Prop} {W : World} {b1 b2 : Nat} {c1 c2 : List Value} (h : (∀ j : Nat, W.cell? ⟨b1, j, none⟩ = c1[j]?) ∧ (∀ j : Nat, W.cell? ⟨b2, j, none⟩ = c2[j]?) ∧ St P W) : St P W := h.2.2
theorem F14.start (w : World) (k0 n0 g1 k1 n1 : Int) (a0 a1 ua : Option Addr) (m0 c0 m1 c1 uc : Nat) (v0 v1 v2 v3 v4 : Value) (l : List Int) : F14 w k0 n0 g1 k1 n1 a0 a1 ua m0 c0 m1 c1 uc v0 v1 v2 v3 v4 l (((w.alloc (.cells #[.int .i64 k0, .int .i64 n0, .slice a0 m0 c0] 24)).alloc (.cells #[.int .i64 g1, .int .i64 k1, .int .i64 n1, .slice a1 m1 c1] 42)).alloc (.cells #[.slice ua l.length uc, v0, v1, v2, v3, v4] 51)) :=
  ⟨bl_alloc (bl_alloc (bl_alloc (Below.refl _ _) _) _) _, (Arr.stays ⟨heap_alloc_at _ _⟩ (bl_alloc (bl_alloc (Below.refl _ _) _) _)),
    Arr.stays (w := (w.alloc (.cells #[.int .i64 k0, .int .i64 n0, .slice a0 m0 c0] 24)).alloc (.cells #[.int .i64 g1, .int .i64 k1, .int .i64 n1, .slice a1 m1 c1] 42)) ⟨by have := heap_alloc_at (w.alloc (.cells #[.int .i64 k0, .int .i64 n0, .slice a0 m0 c0] 24)) (.cells #[.int .i64 g1, .int .i64 k1, .int .i64 n1, .slice a1 m1 c1] 42); rw [size_alloc] at this; exact this⟩ (bl_alloc (Below.refl _ _) _),
    ⟨by have := heap_alloc_at ((w.alloc (.cells #[.int .i64 k0, .int .i64 n0, .slice a0 m0 c0] 24)).alloc (.cells #[.int .i64 g1, .int .i64 k1, .int .i64 n1, .slice a1 m1 c1] 42)) (.cells #[.slice ua l.length uc, v0, v1, v2, v3, v4] 51); rw [size_alloc, size_alloc] at this; exact this⟩⟩

set_option maxHeartbeats 4000000 in
set_option maxRecDepth 100000 in
theorem free14_core (w : World) (k0 n0 g1 k1 n1 : Int) (a0 a1 ua : Option Addr) (m0 c0 m1 c1 uc : Nat) (v0 v1 v2 v3 v4 : Value) (l : List Int) (yT yS yA y : Tgt.Tt) (eT eS eA e : Int) (oT : List Int) (oS : Nat) (hl : Ls w Any (.slice ua l.length uc) l)
    (HTy : ∀ wz, Below w.heap.size w wz → Calls Tryz.prog 6 #[.agg #[.int .i64 k0, .int .i64 n0, .slice a0 m0 c0]] wz (AnsOf wz (yT, eT)))
    (HSt : ∀ wz, Below w.heap.size w wz → Calls Tryz.prog 14 #[.agg #[.int .i64 k0, .int .i64 n0, .slice a0 m0 c0]] wz fun e w' => ∃ p c, e = .returned (.slice p oT.length c) ∧ Ls w' Any (.slice p oT.length c) oT ∧ Below wz.heap.size wz w')
    (HFT : eT = 0 → ∀ wz N p' q' p q, Tgt.TAt wz Any N [.int .i64 yT.k, .int .i64 yT.n, .slice p' yT.ls.length q', .slice p yT.ks.length q] yT → Calls Tryz.prog 13 #[.agg #[.int .i64 yT.k, .int .i64 yT.n, .slice p' yT.ls.length q', .slice p yT.ks.length q]] wz fun e w' => ∃ p c, ∃ f : List Int, e = .returned (.slice p oT.length c) ∧ (Ls w' Any (.slice p oT.length c) f ∧ (∀ x ∈ oT, x ∈ f)) ∧ Below wz.heap.size wz w')
    (HSc : ∀ wz, Below w.heap.size w wz → Calls Tryz.prog 16 #[.agg #[.int .i64 g1, .int .i64 k1, .int .i64 n1, .slice a1 m1 c1]] wz (AnsOf wz (yS, eS)))
    (HS2 : ∀ wz, Below w.heap.size w wz → Calls Tryz.prog 14 #[.agg #[.int .i64 k1, .int .i64 n1, .slice a1 m1 c1]] wz fun e w' => ∃ p c, e = .returned (.slice p oS c) ∧ Below wz.heap.size wz w')
    (HFS : eS = 0 → ∀ wz N p' q' p q, Tgt.TAt wz Any N [.int .i64 yS.k, .int .i64 yS.n, .slice p' yS.ls.length q', .slice p yS.ks.length q] yS → Calls Tryz.prog 13 #[.agg #[.int .i64 yS.k, .int .i64 yS.n, .slice p' yS.ls.length q', .slice p yS.ks.length q]] wz fun e w' => ∃ p c, ∃ f : List Int, e = .returned (.slice p oS c) ∧ (f = f) ∧ Below wz.heap.size wz w')
    (HAb : ∀ wz, Below w.heap.size w wz → Calls Tryz.prog 17 #[.agg #[.slice ua l.length uc, v0, v1, v2, v3, v4]] wz (AnsOf wz (yA, eA)))
    (HSr : ∀ wz, Below w.heap.size w wz → Calls Tryz.prog 18 #[.agg #[v0, v1, v2, v3, v4]] wz (AnsOf wz (y, e)))
    (hee : eA = 0 → e = 0)
    (HFA : eA = 0 → ∀ wz N p' q' p q, Tgt.TAt wz Any N [.int .i64 yA.k, .int .i64 yA.n, .slice p' yA.ls.length q', .slice p yA.ks.length q] yA → Calls Tryz.prog 13 #[.agg #[.int .i64 yA.k, .int .i64 yA.n, .slice p' yA.ls.length q', .slice p yA.ks.length q]] wz fun e w' => ∃ p c f, e = .returned (.slice p f.length c) ∧ Ls w' Any (.slice p f.length c) f ∧ Tgt.Tt.IsFree (yA.fv []) f ∧ Below wz.heap.size wz w')
    (HFY : eA = 0 → ∀ wz N p' q' p q, Tgt.TAt wz Any N [.int .i64 y.k, .int .i64 y.n, .slice p' y.ls.length q', .slice p y.ks.length q] y → Calls Tryz.prog 13 #[.agg #[.int .i64 y.k, .int .i64 y.n, .slice p' y.ls.length q', .slice p y.ks.length q]] wz fun e w' => ∃ p c f, e = .returned (.slice p f.length c) ∧ Ls w' Any (.slice p f.length c) f ∧ Tgt.Tt.IsFree (y.fv []) f ∧ Below wz.heap.size wz w')
    (hAF : eA = 0 → ∀ f a, Tgt.Tt.IsFree (yA.fv []) f → Tgt.Tt.IsFree (y.fv []) a → f.length ≤ a.length ∧ ∀ x ∈ a, (decide (x ∈ f) == decide (x ∈ l)) = false) :
    Calls Tryz.prog 5 #[.agg #[.int .i64 k0, .int .i64 n0, .slice a0 m0 c0], .agg #[.int .i64 g1, .int .i64 k1, .int .i64 n1, .slice a1 m1 c1], .agg #[.slice ua l.length uc, v0, v1, v2, v3, v4]] w fun e w' => e = .returned (.bool true) ∧ Below w.heap.size w w' := by
  have HF0 := hid (F14.start w k0 n0 g1 k1 n1 a0 a1 ua m0 c0 m1 c1 uc v0 v1 v2 v3 v4 l)
  have hTy := hid HTy
  have hSt := hid HSt
  have hFT := hid HFT
  have hSc := hid HSc
  have hS2 := hid HS2
  have hFS := hid HFS
  have hAb := hid HAb
  have hSr := hid HSr
  have hEE := hid hee
  have hFA := hid HFA
  have hFY := hid HFY
  have hAFF := hid hAF
  have HAL := hid (fun wz => alive14 wz)
  have HL := hid hl
  clear HTy HSt HFT HSc HS2 HFS HAb HSr hee HFA HFY hAF hl
  go_enter Tryz.func5, Tryz.ntmps5
  have z0 := HF0.out.x0.cell
  have z1 := HF0.out.x1.cell
  have z2 := HF0.out.x2.cell
  go_upto_if 25 with (go_at_call 6; refine (hTy.out _ HF0.out.bl).mono ?_; rintro e' w3 ⟨⟨p1', q1', p1, q1, N1, rfl, hT1⟩, b3⟩; have HF3 := hid (HF0.out.stays b3); have HT1 := hid hT1.any; clear b3 hT1 z0 z1 z2)
  have HF4 := hid (HF3.out.stays (bl_alloc (Below.refl _ _) (.cells #[.int .i64 yT.k, .int .i64 yT.n, .slice p1' yT.ls.length q1', .slice p1 yT.ks.length q1] 28)))
  have X4 : Hid (Arr (w3.alloc (.cells #[.int .i64 yT.k, .int .i64 yT.n, .slice p1' yT.ls.length q1', .slice p1 yT.ks.length q1] 28)) w3.heap.size 28 [.int .i64 yT.k, .int .i64 yT.n, .slice p1' yT.ls.length q1', .slice p1 yT.ks.length q1]) := ⟨heap_alloc_at _ _⟩
  have HT4 := hid (HT1.out.below (bl_alloc (Below.refl _ _) (.cells #[.int .i64 yT.k, .int .i64 yT.n, .slice p1' yT.ls.length q1', .slice p1 yT.ks.length q1] 28)))
  obtain ⟨W4, hW4⟩ : ∃ W4, w3.alloc (.cells #[.int .i64 yT.k, .int .i64 yT.n, .slice p1' yT.ls.length q1', .slice p1 yT.ks.length q1] 28) = W4 := ⟨_, rfl⟩
  obtain ⟨b4, hb4⟩ : ∃ b4, w3.heap.size = b4 := ⟨_, rfl⟩
  rw [hW4] at HF4 X4 HT4 ⊢
  rw [hb4] at X4 ⊢
  clear hW4 hb4 HF3 HT1 HF0 hTy
  go_cut [8] from 9 to 47 (fun v8 wx => Hid (F14 w k0 n0 g1 k1 n1 a0 a1 ua m0 c0 m1 c1 uc v0 v1 v2 v3 v4 l wx))
  case first =>
    clear hSc hS2 hFS hAb hSr hEE hFA hFY hAFF HAL HL
    by_cases hE : eT = 0
    · have hd : (eT == 0) = true := by rw [beq_iff_eq]; exact hE
      have hFT2 := hid (hFT.out hE)
      clear hE hFT
      obtain ⟨P, ZP, k1', k2', qT, qB⟩ : ∃ (P : World → Prop), Hid (St P W4) ∧ Hid (∀ W, P W → ∀ j : Nat, W.cell? ⟨b4, j, none⟩ = [.int .i64 yT.k, .int .i64 yT.n, .slice p1' yT.ls.length q1', .slice p1 yT.ks.length q1][j]?) ∧ Hid (∀ W, P W → ∀ j : Nat, W.cell? ⟨w.heap.size, j, none⟩ = [.int .i64 k0, .int .i64 n0, .slice a0 m0 c0][j]?) ∧ Hid (∀ W, P W → Tgt.TAt W Any N1 [.int .i64 yT.k, .int .i64 yT.n, .slice p1' yT.ls.length q1', .slice p1 yT.ks.length q1] yT) ∧ Hid (∀ W, P W → F14 w k0 n0 g1 k1 n1 a0 a1 ua m0 c0 m1 c1 uc v0 v1 v2 v3 v4 l W) :=
        ⟨fun W => F14 w k0 n0 g1 k1 n1 a0 a1 ua m0 c0 m1 c1 uc v0 v1 v2 v3 v4 l W ∧ Arr W b4 28 [.int .i64 yT.k, .int .i64 yT.n, .slice p1' yT.ls.length q1', .slice p1 yT.ks.length q1] ∧ Tgt.TAt W Any N1 [.int .i64 yT.k, .int .i64 yT.n, .slice p1' yT.ls.length q1', .slice p1 yT.ks.length q1] yT, ⟨⟨HF4.out, X4.out, HT4.out⟩, fun W W' h hb => ⟨h.1.stays hb, h.2.1.stays hb, h.2.2.below hb⟩⟩, fun W h => h.2.1.cell, fun W h => h.1.x0.cell, fun W h => h.2.2, fun W h => h.1⟩
      have mkS : Hid (∀ wz, St P wz → (∀ j : Nat, wz.cell? ⟨b4, j, none⟩ = [.int .i64 yT.k, .int .i64 yT.n, .slice p1' yT.ls.length q1', .slice p1 yT.ks.length q1][j]?) ∧ (∀ j : Nat, wz.cell? ⟨w.heap.size, j, none⟩ = [.int .i64 k0, .int .i64 n0, .slice a0 m0 c0][j]?) ∧ St P wz) := fun wz h => ⟨k1'.out wz h.here, k2'.out wz h.here, h⟩
      have hs0 := hid (mkS.out _ (ZP.out.stays (Below.refl _ _).drew))
      clear HF4 X4 HT4 k1' k2' ZP
      go_wp2
      go_region_held (fun w' => (∀ j : Nat, w'.cell? ⟨b4, j, none⟩ = [.int .i64 yT.k, .int .i64 yT.n, .slice p1' yT.ls.length q1', .slice p1 yT.ks.length q1][j]?) ∧ (∀ j : Nat, w'.cell? ⟨w.heap.size, j, none⟩ = [.int .i64 k0, .int .i64 n0, .slice a0 m0 c0][j]?) ∧ St P w') (first | exact hs0.out | exact mkS.out _ ((st2F (by assumption)).stays (by assumption))) (first
        | (go_at_call 13; refine (hFT2.out _ _ _ _ _ _ (qT.out _ (st2F (by assumption)).here)).mono ?_; rintro e w7 ⟨p7, c7, f7, rfl, ⟨h7, g7⟩, b7⟩; have H7 := hid h7; have G7 := hid g7; clear h7 g7)
        | (go_at_call 14; refine (hSt.out _ (qB.out _ (st2F (by assumption)).here).bl).mono ?_; rintro e w8 ⟨p8, c8, rfl, h8, b8⟩; have H8 := hid h8; have H7 := hid (H7.out.below b8); clear h8))
      all_goals have HZ := hid (st2F (by assumption))
      all_goals clear hs0 mkS hFT2 hSt
      all_goals go_wp2
      have hoT : oT.length ≤ 9223372036854775807 := by obtain ⟨_, _, _, h⟩ := H8.out.form; unfold maxLen at h; omega
      go_loopw [11] (fun v wr => ∃ k : Nat, v = .int .i64 k ∧ k ≤ oT.length ∧ wr = w8) (fun v _ => oT.length - (intOf v).toNat)
      case atStart => exact ⟨0, rfl, Nat.zero_le _, rfl⟩
      case round =>
        obtain ⟨k, rfl, hk, rfl⟩ := hrel
        by_cases hlt : k < oT.length
        · obtain ⟨b, o, c', hv, -, -, -, hl⟩ := H8.out.resolve_right (fun h => by rw [h.1] at hlt; exact absurd hlt (Nat.not_lt_zero _))
          injection hv with e1 e2 e3
          subst e1
          obtain ⟨x, hx⟩ : ∃ x, oT[k]? = some x := ⟨_, List.getElem?_eq_getElem hlt⟩
          have hc := hl k x hx
          have I1 := hid (has_any _ _ f7 x H7.out)
          rw [decide_eq_true (G7.out x (List.mem_of_getElem? hx))] at I1
          clear hl hx e2 e3
          go_wp2_with (go_at_call 15; refine I1.out.mono ?_; rintro e w9 ⟨rfl, rfl⟩)
          go_roundw
          case rel => exact ⟨k + 1, by go_num, hlt, trivial⟩
          case measure => simp [intOf]; omega
        · go_wp2
          go_meet
          exact hid (qB.out _ HZ.out.here)
    · have hd : (eT == 0) = false := by rw [beq_eq_false_iff_ne]; exact hE
      clear hE hFT hSt
      go_wp2
      go_meet
      exact HF4
  case rest =>
    have HG := hcut
    clear hcut hFT hSt HF4 X4 HT4
    have z0 := HG.out.x0.cell
    have z1 := HG.out.x1.cell
    have z2 := HG.out.x2.cell
    go_upto_region 12 with (go_at_call 16; refine (hSc.out _ HG.out.bl).mono ?_; rintro e' w3' ⟨⟨p1', q1', p1, q1, N1, rfl, hT1⟩, b3⟩; have HF3 := hid (HG.out.stays b3); have HT1 := hid hT1.any; clear b3 hT1 z0 z1 z2)
    have HF4 := hid (HF3.out.stays (bl_alloc (Below.refl _ _) (.cells #[.int .i64 yS.k, .int .i64 yS.n, .slice p1' yS.ls.length q1', .slice p1 yS.ks.length q1] 28)))
    have X4 : Hid (Arr (w3'.alloc (.cells #[.int .i64 yS.k, .int .i64 yS.n, .slice p1' yS.ls.length q1', .slice p1 yS.ks.length q1] 28)) w3'.heap.size 28 [.int .i64 yS.k, .int .i64 yS.n, .slice p1' yS.ls.length q1', .slice p1 yS.ks.length q1]) := ⟨heap_alloc_at _ _⟩
    have HT4 := hid (HT1.out.below (bl_alloc (Below.refl _ _) (.cells #[.int .i64 yS.k, .int .i64 yS.n, .slice p1' yS.ls.length q1', .slice p1 yS.ks.length q1] 28)))
    obtain ⟨W5, hW5⟩ : ∃ W5, w3'.alloc (.cells #[.int .i64 yS.k, .int .i64 yS.n, .slice p1' yS.ls.length q1', .slice p1 yS.ks.length q1] 28) = W5 := ⟨_, rfl⟩
    obtain ⟨b5, hb5⟩ : ∃ b5, w3'.heap.size = b5 := ⟨_, rfl⟩
    rw [hW5] at HF4 X4 HT4 ⊢
    rw [hb5] at X4 ⊢
    clear hW5 hb5 HF3 HT1 HG hSc
    go_cut [64] from 53 to 64 (fun v64 wx => v64 = .bool false ∧ Hid (F14 w k0 n0 g1 k1 n1 a0 a1 ua m0 c0 m1 c1 uc v0 v1 v2 v3 v4 l wx))
    case first =>
      clear hAb hSr hEE hFA hFY hAFF HAL HL
      by_cases hE : eS = 0
      · have hd : (eS == 0) = true := by rw [beq_iff_eq]; exact hE
        have hFS2 := hid (hFS.out hE)
        clear hE hFS
        obtain ⟨P, ZP, k1', k2', qT, qB⟩ : ∃ (P : World → Prop), Hid (St P W5) ∧ Hid (∀ W, P W → ∀ j : Nat, W.cell? ⟨b5, j, none⟩ = [.int .i64 yS.k, .int .i64 yS.n, .slice p1' yS.ls.length q1', .slice p1 yS.ks.length q1][j]?) ∧ Hid (∀ W, P W → ∀ j : Nat, W.cell? ⟨w.heap.size + 1, j, none⟩ = [.int .i64 g1, .int .i64 k1, .int .i64 n1, .slice a1 m1 c1][j]?) ∧ Hid (∀ W, P W → Tgt.TAt W Any N1 [.int .i64 yS.k, .int .i64 yS.n, .slice p1' yS.ls.length q1', .slice p1 yS.ks.length q1] yS) ∧ Hid (∀ W, P W → F14 w k0 n0 g1 k1 n1 a0 a1 ua m0 c0 m1 c1 uc v0 v1 v2 v3 v4 l W) :=
          ⟨fun W => F14 w k0 n0 g1 k1 n1 a0 a1 ua m0 c0 m1 c1 uc v0 v1 v2 v3 v4 l W ∧ Arr W b5 28 [.int .i64 yS.k, .int .i64 yS.n, .slice p1' yS.ls.length q1', .slice p1 yS.ks.length q1] ∧ Tgt.TAt W Any N1 [.int .i64 yS.k, .int .i64 yS.n, .slice p1' yS.ls.length q1', .slice p1 yS.ks.length q1] yS, ⟨⟨HF4.out, X4.out, HT4.out⟩, fun W W' h hb => ⟨h.1.stays hb, h.2.1.stays hb, h.2.2.below hb⟩⟩, fun W h => h.2.1.cell, fun W h => h.1.x1.cell, fun W h => h.2.2, fun W h => h.1⟩
        have mkS : Hid (∀ wz, St P wz → (∀ j : Nat, wz.cell? ⟨b5, j, none⟩ = [.int .i64 yS.k, .int .i64 yS.n, .slice p1' yS.ls.length q1', .slice p1 yS.ks.length q1][j]?) ∧ (∀ j : Nat, wz.cell? ⟨w.heap.size + 1, j, none⟩ = [.int .i64 g1, .int .i64 k1, .int .i64 n1, .slice a1 m1 c1][j]?) ∧ St P wz) := fun wz h => ⟨k1'.out wz h.here, k2'.out wz h.here, h⟩
        have hs0 := hid (mkS.out _ (ZP.out.stays (Below.refl _ _).drew))
        clear HF4 X4 HT4 k1' k2' ZP
        go_region_held (fun w' => (∀ j : Nat, w'.cell? ⟨b5, j, none⟩ = [.int .i64 yS.k, .int .i64 yS.n, .slice p1' yS.ls.length q1', .slice p1 yS.ks.length q1][j]?) ∧ (∀ j : Nat, w'.cell? ⟨w.heap.size + 1, j, none⟩ = [.int .i64 g1, .int .i64 k1, .int .i64 n1, .slice a1 m1 c1][j]?) ∧ St P w') (first | exact hs0.out | exact mkS.out _ ((st2F (by assumption)).stays (by assumption))) (first
          | (go_at_call 13; refine (hFS2.out _ _ _ _ _ _ (qT.out _ (st2F (by assumption)).here)).mono ?_; rintro e w7 ⟨p7, c7, f7, rfl, -, b7⟩)
          | (go_at_call 14; refine (hS2.out _ (qB.out _ (st2F (by assumption)).here).bl).mono ?_; rintro e w8 ⟨p8, c8, rfl, b8⟩))
        all_goals have HZ := hid (st2F (by assumption))
        all_goals go_wp2
        all_goals go_meet
        all_goals exact ⟨by simp, hid (qB.out _ HZ.out.here)⟩
      · have hd : (eS == 0) = false := by rw [beq_eq_false_iff_ne]; exact hE
        have HF5 := hid (fun n => HF4.out.stays (bl_drewN W5 n))
        clear hE hFS hS2 HF4 X4 HT4
        go_big_quiet (fail)
        go_wp2
        go_meet
        exact ⟨rfl, HF5.out _⟩
    case rest =>
      obtain ⟨rfl, HG⟩ := hcut
      clear hFS hS2 HF4 X4 HT4
      have z0 := HG.out.x0.cell
      have z1 := HG.out.x1.cell
      have z2 := HG.out.x2.cell
      go_upto_if 77 with (first | (go_at_call 17; refine (hAb.out _ HG.out.bl).mono ?_; rintro e' w5 ⟨⟨p2', q2', p2, q2, N2, rfl, hT2⟩, b5'⟩; have b6 := bl_alloc b5' (.cells #[.int .i64 yA.k, .int .i64 yA.n, .slice p2' yA.ls.length q2', .slice p2 yA.ks.length q2] 28); have HF6 := hid (HG.out.stays b6); have X6 : Hid (Arr (w5.alloc (.cells #[.int .i64 yA.k, .int .i64 yA.n, .slice p2' yA.ls.length q2', .slice p2 yA.ks.length q2] 28)) w5.heap.size 28 [.int .i64 yA.k, .int .i64 yA.n, .slice p2' yA.ls.length q2', .slice p2 yA.ks.length q2]) := ⟨heap_alloc_at _ _⟩; have HT6 := hid (hT2.any.below (bl_alloc (Below.refl _ _) (.cells #[.int .i64 yA.k, .int .i64 yA.n, .slice p2' yA.ls.length q2', .slice p2 yA.ks.length q2] 28))); have y2 := HF6.out.x2.cell; clear b5' hT2 z0 z1 z2 b6) | (go_at_call 18; refine (hSr.out _ HF6.out.bl).mono ?_; rintro e' w7 ⟨⟨p3', q3', p3, q3, N3, rfl, hT3⟩, b7⟩; have HF7 := hid (HF6.out.stays b7); have X7 := hid (X6.out.stays b7); have HT7 := hid (HT6.out.below b7); have HU7 := hid hT3.any; clear b7 hT3 y2))
      have HF8 := hid (HF7.out.stays (bl_alloc (Below.refl _ _) (.cells #[.int .i64 y.k, .int .i64 y.n, .slice p3' y.ls.length q3', .slice p3 y.ks.length q3] 28)))
      have X8 := hid (X7.out.stays (bl_alloc (Below.refl _ _) (.cells #[.int .i64 y.k, .int .i64 y.n, .slice p3' y.ls.length q3', .slice p3 y.ks.length q3] 28)))
      have X9 : Hid (Arr (w7.alloc (.cells #[.int .i64 y.k, .int .i64 y.n, .slice p3' y.ls.length q3', .slice p3 y.ks.length q3] 28)) w7.heap.size 28 [.int .i64 y.k, .int .i64 y.n, .slice p3' y.ls.length q3', .slice p3 y.ks.length q3]) := ⟨heap_alloc_at _ _⟩
      have HT8 := hid (HT7.out.below (bl_alloc (Below.refl _ _) (.cells #[.int .i64 y.k, .int .i64 y.n, .slice p3' y.ls.length q3', .slice p3 y.ks.length q3] 28)))
      have HU8 := hid (HU7.out.below (bl_alloc (Below.refl _ _) (.cells #[.int .i64 y.k, .int .i64 y.n, .slice p3' y.ls.length q3', .slice p3 y.ks.length q3] 28)))
      obtain ⟨W9, hW9⟩ : ∃ W9, w7.alloc (.cells #[.int .i64 y.k, .int .i64 y.n, .slice p3' y.ls.length q3', .slice p3 y.ks.length q3] 28) = W9 := ⟨_, rfl⟩
      obtain ⟨b6, hb6⟩ : ∃ b6, w5.heap.size = b6 := ⟨_, rfl⟩
      obtain ⟨b9, hb9⟩ : ∃ b9, w7.heap.size = b9 := ⟨_, rfl⟩
      rw [hW9] at HF8 X8 X9 HT8 HU8 ⊢
      rw [hb6] at X8 ⊢
      rw [hb9] at X9 ⊢
      clear hW9 hb6 hb9 HF7 X7 HT7 HU7 HF6 X6 HT6 HG hAb hSr
      by_cases hE : eA = 0
      · have hd : (eA == 0) = true := by rw [beq_iff_eq]; exact hE
        have he : (e != 0) = false := by rw [hEE.out hE]; rfl
        have hFA2 := hid (hFA.out hE)
        have hFY2 := hid (hFY.out hE)
        have hAF2 := hid (hAFF.out hE)
        clear hE hFA hFY hAFF hEE
        obtain ⟨P, ZP, k1', k2', qT, qU, qB⟩ : ∃ (P : World → Prop), Hid (St P W9) ∧ Hid (∀ W, P W → ∀ j : Nat, W.cell? ⟨b6, j, none⟩ = [.int .i64 yA.k, .int .i64 yA.n, .slice p2' yA.ls.length q2', .slice p2 yA.ks.length q2][j]?) ∧ Hid (∀ W, P W → ∀ j : Nat, W.cell? ⟨b9, j, none⟩ = [.int .i64 y.k, .int .i64 y.n, .slice p3' y.ls.length q3', .slice p3 y.ks.length q3][j]?) ∧ Hid (∀ W, P W → Tgt.TAt W Any N2 [.int .i64 yA.k, .int .i64 yA.n, .slice p2' yA.ls.length q2', .slice p2 yA.ks.length q2] yA) ∧ Hid (∀ W, P W → Tgt.TAt W Any N3 [.int .i64 y.k, .int .i64 y.n, .slice p3' y.ls.length q3', .slice p3 y.ks.length q3] y) ∧ Hid (∀ W, P W → F14 w k0 n0 g1 k1 n1 a0 a1 ua m0 c0 m1 c1 uc v0 v1 v2 v3 v4 l W) :=
          ⟨fun W => F14 w k0 n0 g1 k1 n1 a0 a1 ua m0 c0 m1 c1 uc v0 v1 v2 v3 v4 l W ∧ Arr W b6 28 [.int .i64 yA.k, .int .i64 yA.n, .slice p2' yA.ls.length q2', .slice p2 yA.ks.length q2] ∧ Arr W b9 28 [.int .i64 y.k, .int .i64 y.n, .slice p3' y.ls.length q3', .slice p3 y.ks.length q3] ∧ Tgt.TAt W Any N2 [.int .i64 yA.k, .int .i64 yA.n, .slice p2' yA.ls.length q2', .slice p2 yA.ks.length q2] yA ∧ Tgt.TAt W Any N3 [.int .i64 y.k, .int .i64 y.n, .slice p3' y.ls.length q3', .slice p3 y.ks.length q3] y, ⟨⟨HF8.out, X8.out, X9.out, HT8.out, HU8.out⟩, fun W W' h hb => ⟨h.1.stays hb, h.2.1.stays hb, h.2.2.1.stays hb, h.2.2.2.1.below hb, h.2.2.2.2.below hb⟩⟩, fun W h => h.2.1.cell, fun W h => h.2.2.1.cell, fun W h => h.2.2.2.1, fun W h => h.2.2.2.2, fun W h => h.1⟩
        have mkS : Hid (∀ wz, St P wz → (∀ j : Nat, wz.cell? ⟨b6, j, none⟩ = [.int .i64 yA.k, .int .i64 yA.n, .slice p2' yA.ls.length q2', .slice p2 yA.ks.length q2][j]?) ∧ (∀ j : Nat, wz.cell? ⟨b9, j, none⟩ = [.int .i64 y.k, .int .i64 y.n, .slice p3' y.ls.length q3', .slice p3 y.ks.length q3][j]?) ∧ St P wz) := fun wz h => ⟨k1'.out wz h.here, k2'.out wz h.here, h⟩
        have hs0 := hid (mkS.out _ (ZP.out.stays (Below.refl _ _).drew))
        have m1 : Hid True := trivial
        clear HF8 X8 X9 HT8 HU8 k1' k2' ZP
        go_wp2
        go_region_held (fun w' => (∀ j : Nat, w'.cell? ⟨b6, j, none⟩ = [.int .i64 yA.k, .int .i64 yA.n, .slice p2' yA.ls.length q2', .slice p2 yA.ks.length q2][j]?) ∧ (∀ j : Nat, w'.cell? ⟨b9, j, none⟩ = [.int .i64 y.k, .int .i64 y.n, .slice p3' y.ls.length q3', .slice p3 y.ks.length q3][j]?) ∧ St P w') (first | exact hs0.out | exact mkS.out _ ((st2F (by assumption)).stays (by assumption))) (first
          | (go_at_call 13; have := m1; refine (hFA2.out _ _ _ _ _ _ (qT.out _ (st2F (by assumption)).here)).mono ?_; rintro e' w10 ⟨p10, c10, f, rfl, h10, g10, b10⟩; have H10 := hid h10; have G10 := hid g10; clear h10 g10 m1)
          | (go_at_call 13; refine (hFY2.out _ _ _ _ _ _ (qU.out _ (st2F (by assumption)).here)).mono ?_; rintro e' w11 ⟨p11, c11, al, rfl, h11, g11, b11⟩; have H11 := hid h11; have G11 := hid g11; have H10 := hid (H10.out.below b11); clear h11 g11))
        all_goals have HZ := hid (qB.out _ (st2F (by assumption)).here)
        all_goals clear hs0 mkS hFA2 hFY2 qT qU
        have HR := hid (hAF2.out f al G10.out G11.out)
        have hlen : f.length ≤ al.length := HR.out.1
        have hal : al.length ≤ 9223372036854775807 := by obtain ⟨_, _, _, h⟩ := H11.out.form; unfold maxLen at h; omega
        have HL2 := hid (HL.out.below HZ.out.bl)
        clear G10 G11 hAF2 HL b10 b11
        go_wp2
        go_loopw [18] (fun v wr => ∃ k : Nat, v = .int .i64 k ∧ k ≤ al.length ∧ ∃ nn, wr = w11.drewN nn) (fun v _ => al.length - (intOf v).toNat)
        case atStart => exact ⟨0, rfl, Nat.zero_le _, 0, rfl⟩
        case round =>
          obtain ⟨k, rfl, hk, nn, rfl⟩ := hrel
          by_cases hlt : k < al.length
          · obtain ⟨b, o, c', hv, -, -, -, hl'⟩ := H11.out.resolve_right (fun h => by rw [h.1] at hlt; exact absurd hlt (Nat.not_lt_zero _))
            injection hv with e1 e2 e3
            obtain ⟨x, hx⟩ : ∃ x, al[k]? = some x := ⟨_, List.getElem?_eq_getElem hlt⟩
            have hc : (w11.drewN nn).cell? ⟨b, o + k, none⟩ = some (.int .i64 x) := hl' k x hx
            have hdd := HR.out.2 x (List.mem_of_getElem? hx)
            have x2 : ∀ j, (w11.drewN nn).cell? ⟨w.heap.size + 1 + 1, j, none⟩ = [.slice ua l.length uc, v0, v1, v2, v3, v4][j]? := HZ.out.x2.cell
            subst e1
            clear hl' hx e2 e3
            obtain ⟨W, hW⟩ : ∃ W, W = w11.drewN nn := ⟨_, rfl⟩
            have J1 : Hid (∀ n, Ls (W.drewN n) Any (.slice p10 f.length c10) f) := fun n => by rw [hW, World.drewN_drewN]; exact H10.out.below (bl_drewN _ _)
            have J2 : Hid (∀ n, Ls (W.drewN n) Any (.slice ua l.length uc) l) := fun n => by rw [hW, World.drewN_drewN]; exact HL2.out.below (bl_drewN _ _)
            have HA : Hid (∀ n v ll, Ls (W.drewN n) Any v ll → Calls Tryz.prog 15 #[v, .int .i64 x] (W.drewN n) fun e w' => e = .returned (.bool (decide (x ∈ ll))) ∧ w' = W.drewN n) := fun n v ll h => has_any _ v ll x h
            rw [← hW] at hc x2 ⊢
            have HW : Hid (W = w11.drewN nn) := hW
            clear hW
            go_wp2
            go_big_quiet (first | (go_at_call 15; exact Calls.quiet_of_same (HA.out _ _ _ (by first | exact J1.out _ | exact J2.out _))))
            go_wp2
            go_roundw
            case rel => exact ⟨k + 1, by go_num, hlt, nn + nq, by rw [HW.out, World.drewN_drewN]⟩
            case measure => simp [intOf]; omega
          · have HBz : Hid (Below w.heap.size w (w11.drewN nn)) := bl_tr HZ.out.bl (bl_drewN _ _)
            obtain ⟨W, hW⟩ : ∃ W, W = w11.drewN nn := ⟨_, rfl⟩
            rw [← hW] at HBz ⊢
            clear hW
            go_wp2_with (go_at_call 7; refine (HAL.out _).mono ?_; rintro e' w12 ⟨rfl, b12⟩; have HB12 := hid (bl_tr HBz.out b12); clear b12)
            go_ret
            exact ⟨rfl, HB12.out⟩
      · have hd : (eA == 0) = false := by rw [beq_eq_false_iff_ne]; exact hE
        clear hE hFA hFY hAFF hEE
        go_wp2_with (go_at_call 7; refine (HAL.out _).mono ?_; rintro e' w12 ⟨rfl, b12⟩; have HB12 := hid (bl_tr HF8.out.bl b12); clear b12)
        go_ret
        exact ⟨rfl, HB12.out⟩
end Go.Proofs.YtigliglmejkakaaGreat

namespace Go.Proofs.YtigliglmejkakaaGreat
open Go.RowKit
set_option linter.unusedVariables false
set_option linter.unusedSimpArgs false

theorem free_big {wz : World} {N : Nat} {vs : List Value} {y : Tgt.Tt} {V : Nat} (hB : Bnd y V) (hV : V ≤ 1048574) (h : Tgt.TAt wz Any N vs y) : Calls Tryz.prog 13 #[.agg vs.toArray] wz fun e w' => ∃ p c f, e = .returned (.slice p f.length c) ∧ Ls w' Any (.slice p f.length c) f ∧ Tgt.Tt.IsFree (y.fv []) f ∧ Below wz.heap.size wz w' := by
  obtain ⟨K, hK, hk⟩ := hB.k
  have hd := hB.d
  have hc := hB.c
  refine (Tgt.FreeTypes_big wz N vs y h (by omega) (by omega) K hk (by omega)).mono ?_
  rintro e w' ⟨v, f, rfl, h1, h2, h3⟩
  have h1 : Ls w' Any v f := by
    rcases h1 with ⟨b, o, c, g1, g2, g3, g4, g5⟩ | h1
    · exact .inl ⟨b, o, c, g1, trivial, g3, g4, g5⟩
    · exact .inr h1
  obtain ⟨p, c, rfl, -⟩ := h1.form
  exact ⟨p, c, f, rfl, h1, h2, h3⟩
theorem free_any {wz : World} {N : Nat} {vs : List Value} {y : Tgt.Tt} (hc : y.cnt ≤ 2097152) (h : Tgt.TAt wz Any N vs y) : Calls Tryz.prog 13 #[.agg vs.toArray] wz fun e w' => ∃ p c f, e = .returned (.slice p f.length c) ∧ Ls w' Any (.slice p f.length c) f ∧ Tgt.Tt.IsFree (y.fv []) f ∧ Below wz.heap.size wz w' := by
  refine (Tgt.FreeTypes_any wz N vs y h hc).mono ?_
  rintro e w' ⟨v, f, rfl, h1, h2, h3⟩
  have h1 : Ls w' Any v f := by
    rcases h1 with ⟨b, o, c, g1, g2, g3, g4, g5⟩ | h1
    · exact .inl ⟨b, o, c, g1, trivial, g3, g4, g5⟩
    · exact .inr h1
  obtain ⟨p, c, rfl, -⟩ := h1.form
  exact ⟨p, c, f, rfl, h1, h2, h3⟩
theorem ansB_ok {ok : Bool} {y : Tgt.Tt} (h : (ansB ok y).2 = 0) : ok = true ∧ ansB ok y = (y, 0) := by
  cases ok with
  | true => exact ⟨rfl, rfl⟩
  | false => cases h
theorem hidA_ok {l : List Int} {a : An} (h : (hidA l a).2 = 0) : a.2 = 0 ∧ hidA l a = (Tt.around 11 l a.1, 0) := by
  unfold hidA at h ⊢
  split at h
  · rename_i h1
    split at h
    · rename_i h2
      exact ⟨h2, by rw [if_pos h1, if_pos h2]⟩
    · rename_i h2; exact absurd h h2
  · rename_i h1; exact absurd h h1
set_option maxRecDepth 100000 in
theorem free14_walk (w : World) (n0 n1 n2 : Nat) (vs0 vs1 vs2 : List Value) (t s : Tp) (g : Int) (u : Value) (l : List Int) (V : Nat) (hT : TAt w Any n0 vs0 t) (hS : TAt w Any n1 vs1 s) (hg : R64 g) (hu : Ls w Any u l) (hu64 : ∀ z ∈ l, R64 z) (h : SrP w n2 vs2 V) (hct : t.cnt ≤ 1048576) (hcs : s.cnt ≤ 1048576) (hb : V + l.length + 2 ≤ 1048576) :
    Calls Tryz.prog 5 #[.agg vs0.toArray, .agg (.int .i64 g :: vs1).toArray, .agg (u :: vs2).toArray] w fun e w' => e = .returned (.bool true) ∧ Below w.heap.size w w' := by
  obtain ⟨v0, a1, c1, a2, c2, a3, c3, v4, m, tms, vms, sa, fa, rfl, -, -, -, -, -, hB, h7⟩ := str_top (by omega) h
  generalize recA (flS tms vms sa fa) = a at hB h7
  obtain ⟨a0, c0, rfl⟩ := hT.form
  obtain ⟨b1, d1, rfl⟩ := hS.form
  obtain ⟨ua, uc, rfl, -⟩ := hu.form
  have HTy : ∀ wz, Below w.heap.size w wz → Calls Tryz.prog 6 #[.agg #[.int .i64 t.k, .int .i64 t.n, .slice a0 t.ks.length c0]] wz (AnsOf wz (ansB t.okT (Tp.made 0 t))) := fun wz hz => (TType_any wz n0 _ t (hT.below hz) hct).mono fun e w' ⟨h1, h2⟩ => h1.two.ans h2
  have HSc : ∀ wz, Below w.heap.size w wz → Calls Tryz.prog 16 #[.agg #[.int .i64 g, .int .i64 s.k, .int .i64 s.n, .slice b1 s.ks.length d1]] wz (AnsOf wz (ansB (Tp.okS g s) (Tp.schemeT g s))) := fun wz hz => (TScheme_any wz n1 g _ s (hS.below hz) hg hcs).mono fun e w' ⟨h1, h2⟩ => h1.ans h2
  have HSr : ∀ wz, Below w.heap.size w wz → Calls Tryz.prog 18 #[.agg #[v0, .slice a1 vms.length c1, .slice a2 sa.length c2, .slice a3 fa.length c3, v4]] wz (AnsOf wz a) := fun wz hz => Str_of wz _ _ _ _ _ _ fun wy pb po hy hc => h7 wy pb po (bl_tr hz hy) hc
  have HAb : ∀ wz, Below w.heap.size w wz → Calls Tryz.prog 17 #[.agg #[.slice ua l.length uc, v0, .slice a1 vms.length c1, .slice a2 sa.length c2, .slice a3 fa.length c3, v4]] wz (AnsOf wz (hidA l a)) := fun wz hz => Abs_of wz _ _ _ _ _ _ _ fun wy pb po hy hc => by
    refine hidden_of wy pb po ua uc l (hc 0 _ rfl) (hu.below (bl_tr hz hy)) hu64 (by omega) a fun W' hW' => ?_
    refine h7 W' pb (po + 1) (bl_tr (bl_tr hz hy) hW') fun j v hv => ?_
    have := hc (j + 1) v (by simpa using hv)
    rw [show po + 1 + j = po + (j + 1) from by omega]
    exact (hW'.cell (p := ⟨pb, po + (j + 1), none⟩) (World.block_lt_of_cell? _ _ this)).trans this
  obtain ⟨yT, hyT⟩ : ∃ x, ansB t.okT (Tp.made 0 t) = x := ⟨_, rfl⟩
  obtain ⟨yS, hyS⟩ : ∃ x, ansB (Tp.okS g s) (Tp.schemeT g s) = x := ⟨_, rfl⟩
  obtain ⟨yA, hyA⟩ : ∃ x, hidA l a = x := ⟨_, rfl⟩
  rw [hyT] at HTy
  rw [hyS] at HSc
  rw [hyA] at HAb
  refine free14_core w t.k t.n g s.k s.n a0 b1 ua t.ks.length c0 s.ks.length d1 uc v0 (.slice a1 vms.length c1) (.slice a2 sa.length c2) (.slice a3 fa.length c3) v4 l yT.1 yS.1 yA.1 a.1 yT.2 yS.2 yA.2 a.2 (Tp.found 6 t []) (Tp.found 6 s []).length hu HTy ?_ ?_ HSc ?_ ?_ HAb HSr ?_ ?_ ?_ ?_
  · intro wz hz
    refine (Stamps_any wz n0 _ t (hT.below hz) hct).mono ?_
    rintro e w' ⟨v, rfl, h1, h2⟩
    obtain ⟨p, q, rfl, -⟩ := h1.form
    exact ⟨p, q, rfl, h1, h2⟩
  · intro he wz N p' q' p q hy
    rw [← hyT] at he
    obtain ⟨hok, e1⟩ := ansB_ok he
    obtain rfl : yT = (Tp.made 0 t, 0) := by rw [← hyT, e1]
    refine (free_any (by have := made_cnt 0 t; show (Tp.made 0 t).cnt ≤ _; omega) hy).mono ?_
    rintro e w' ⟨p, c, f, rfl, h1, h2, h3⟩
    have := free_len h2 (Tp.found_nodup 6 t) (okT_free hok)
    exact ⟨p, c, f, by rw [this.1], ⟨by rw [← this.1]; exact h1, this.2⟩, h3⟩
  · intro wz hz
    refine (Stamps_any wz n1 _ s (hS.below hz) hcs).mono ?_
    rintro e w' ⟨v, rfl, h1, h2⟩
    obtain ⟨p, q, rfl, -⟩ := h1.form
    exact ⟨p, q, rfl, h2⟩
  · intro he wz N p' q' p q hy
    rw [← hyS] at he
    obtain ⟨hok, e1⟩ := ansB_ok he
    obtain rfl : yS = (Tp.schemeT g s, 0) := by rw [← hyS, e1]
    have hgc : g.toNat ≤ s.cnt := by
      have hk := hok
      unfold Tp.okS Tp.rightS at hk
      simp only [Bool.and_eq_true, decide_eq_true_eq] at hk
      have h1 := Tp.found_lenD 8 s []
      have h2 := hk.1.2.2
      simp only [List.length_nil, Nat.zero_add] at h1
      omega
    refine (free_any (by have := schemeT_cnt g s; show (Tp.schemeT g s).cnt ≤ _; omega) hy).mono ?_
    rintro e w' ⟨p, c, f, rfl, h1, h2, h3⟩
    have := free_len h2 (Tp.found_nodup 6 s) (okS_free hok)
    exact ⟨p, c, f, by rw [this.1], rfl, h3⟩
  · intro he
    rw [← hyA] at he
    exact (hidA_ok he).1
  · intro he wz N p' q' p q hy
    have hBA : Bnd yA.1 (V + l.length) := by rw [← hyA]; exact hidA_bnd hB (Nat.le_refl _)
    exact free_big hBA (by omega) hy
  · intro he wz N p' q' p q hy
    exact free_big hB (by omega) hy
  · intro he f al hf hal
    rw [← hyA] at he
    have e1 := (hidA_ok he).2
    rw [hyA] at e1
    rw [e1] at hf
    exact abs_free hf hal
end Go.Proofs.YtigliglmejkakaaGreat
