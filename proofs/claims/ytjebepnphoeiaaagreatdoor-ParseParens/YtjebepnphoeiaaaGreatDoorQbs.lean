/- Pieces: GrEa NdX NdX0 NdX1. -/
import Derived.Test.YtjebepnphoeiaaaGreatDoorQbp
import Derived.Test.YtjebepnphoeiaaaGreatDoorQbr
import Derived.Test.YtjebepnphoeiaaaGreatDoorQac
import Derived.BigRegion
namespace Go.Proofs.YtjebepnphoeiaaaGreatDoor
open Go.RowKit
set_option linter.unusedVariables false
set_option linter.unusedSimpArgs false

theorem Gr.lexN_run {k : Nat} {l : List UInt8} {ts : List Lx.Tok} (h : Lx.lexF k l = .good ts) (hl : l.length ≤ 4096) (hk : ts.length ≤ 1024) : Lx.lex l = .good ts := by
 unfold Lx.lex
 rw [if_neg (by omega)]
 exact Lx.lexN_mono ((Lx.lexF_eq k l).trans h) hk
theorem Gr.g_run {k : Nat} {nt : Gr.Nt} {ts : Gr.Ts} {R : Gr.Res} (h : Gr.g k nt ts = R) (hR : R ≠ .out) (hk : k ≤ Gr.enough) : Gr.g Gr.enough nt ts = R := (Gr.more (by rw [h]; exact hR) hk).trans h
def Gr.al1 : List UInt8 := [102, 32, 120, 32, 43, 32, 49]
def Gr.al2 : List UInt8 := [97, 32, 60, 32, 98, 32, 60, 32, 99]
def Gr.al3 : List UInt8 := [105, 110, 116, 32, 42, 32, 98, 111, 111, 108, 32, 45, 62, 32, 39, 97]
def Gr.al1T : List Lx.Tok := [⟨1, [102], 0, 7⟩, ⟨1, [120], 0, 5⟩, ⟨6, [43], 0, 3⟩, ⟨4, [49], 1, 1⟩]
def Gr.al2T : List Lx.Tok := [⟨1, [97], 0, 9⟩, ⟨6, [60], 0, 7⟩, ⟨1, [98], 0, 5⟩, ⟨6, [60], 0, 3⟩, ⟨1, [99], 0, 1⟩]
def Gr.al3T : List Lx.Tok := [⟨3, [105, 110, 116], 0, 16⟩, ⟨6, [42], 0, 12⟩, ⟨3, [98, 111, 111, 108], 0, 10⟩, ⟨6, [45, 62], 0, 5⟩, ⟨5, [39, 97], 0, 2⟩]
def Gr.v1 (s : List UInt8) : Nd := Gr.expN 5 0 0 [⟨s.toArray⟩] [] [] [] []
def Gr.al1N : Nd := Gr.binN 1 (Gr.expN 8 0 0 [] [] [Gr.v1 [102], Gr.v1 [120]] [] []) (Gr.expN 1 0 1 [] [] [] [] [])
def Gr.al2N : Nd := Gr.binN 6 (Gr.v1 [97]) (Gr.v1 [98])
def Gr.al3N : Nd := Gr.tyN 3 Gr.none8 [] [Gr.tyN 4 Gr.none8 [] [Gr.tyN 2 Gr.none8 [⟨#[105, 110, 116]⟩] [], Gr.tyN 2 Gr.none8 [⟨#[98, 111, 111, 108]⟩] []], Gr.tyN 1 ⟨#[97]⟩ [] []]
theorem Gr.al1_lex : Lx.lex Gr.al1 = .good Gr.al1T := Gr.lexN_run (k := 20) (by kernel_rfl) (by decide) (by decide)
theorem Gr.al2_lex : Lx.lex Gr.al2 = .good Gr.al2T := Gr.lexN_run (k := 20) (by kernel_rfl) (by decide) (by decide)
theorem Gr.al3_lex : Lx.lex Gr.al3 = .good Gr.al3T := Gr.lexN_run (k := 20) (by kernel_rfl) (by decide) (by decide)
theorem Gr.al1_g : Gr.g Gr.enough .exp Gr.al1T = .ok Gr.al1N [] := Gr.g_run (k := 30) (by kernel_rfl) (by simp) (by decide)
theorem Gr.al2_g : Gr.g Gr.enough .exp Gr.al2T = .ok Gr.al2N [⟨6, [60], 0, 3⟩, ⟨1, [99], 0, 1⟩] := Gr.g_run (k := 30) (by kernel_rfl) (by simp) (by decide)
theorem Gr.al3_g : Gr.g Gr.enough .ty Gr.al3T = .ok Gr.al3N [] := Gr.g_run (k := 30) (by kernel_rfl) (by simp) (by decide)
theorem Gr.al1_right : Nd.rightX Gr.al1N = 0 := by kernel_rfl
theorem Gr.al3_right : Nd.rightTy Gr.al3N = 0 := by kernel_rfl
theorem Gr.al1_whole : Gr.whole .exp Nd.rightX Gr.al1 = .node Gr.al1N := by unfold Gr.whole; rw [Gr.al1_lex]; simp only; rw [Gr.al1_g]; simp only; rw [if_pos Gr.al1_right]
theorem Gr.al2_whole : Gr.whole .exp Nd.rightX Gr.al2 = .err 6 11 := by unfold Gr.whole; rw [Gr.al2_lex]; simp only; rw [Gr.al2_g]; rfl
theorem Gr.al3_whole : Gr.whole .ty Nd.rightTy Gr.al3 = .node Gr.al3N := by unfold Gr.whole; rw [Gr.al3_lex]; simp only; rw [Gr.al3_g]; simp only; rw [if_pos Gr.al3_right]
theorem Gr.al1_form {w : World} {K : Nat → Prop} {n : Nat} {vs : List Value} (h : At w K n 2 vs Gr.al1N) : ∃ (j : Int) (sa : Option Addr) (sn sc : Nat) (pa : Option Addr) (pn pc : Nat) (b o c : Nat) (da : Option Addr) (dn dc : Nat) (ta : Option Addr) (tn tc : Nat), vs = [.int .i64 13, .int .i64 1, .int .i64 j, .slice sa sn sc, .slice pa pn pc, .slice (some ⟨b, o, none⟩) 2 c, .slice da dn dc, .slice ta tn tc] ∧ b < w.heap.size ∧ w.cell? ⟨b, o, none⟩ = some (.int .i64 8) := by
 cases n with
 | zero => exact h.elim
 | succ n =>
  obtain ⟨xi, xj, xk, xa, xn, xc, xd0, xm0, xe0, xd1, xm1, xe1, xd2, xm2, xe2, xd3, xm3, xe3, hf⟩ := h.exp_form
  obtain ⟨i0, i1, i2, p3, x3, v0, l0, v1, l1, v2, l2, v3, l3, hv, hn, -, -, -, -, -, k1, -, -⟩ := h.exp
  unfold Gr.al1N Gr.binN Gr.expN at hn
  injection hn with e1 e2
  injection e1 with e10 e11
  injection e11 with e12 e13
  injection e10 with e10
  injection e12 with e12
  injection e2 with e20 e21
  injection e21 with e22 e23
  subst e10; subst e12; subst e22
  rw [hf] at hv
  injection hv with q0 hv
  injection hv with q1 hv
  injection hv with q2 hv
  injection hv with q3 hv
  injection hv with q4 hv
  injection hv with q5 hv
  injection q0 with _ q0
  injection q1 with _ q1
  rcases k1 with ⟨b, o, c, hb, -, -, -, hc⟩ | ⟨h0, -⟩
  ·
   obtain ⟨us, u1, u2, u3⟩ := hc 0 _ rfl
   cases n with
   | zero => exact u3.elim
   | succ n =>
    obtain ⟨j0, j1, j2, p3, y3, w0, m0, w1, m1, w2, m2, w3, m3, hu, hm, -⟩ := u3.exp
    injection hm with g1 g2
    injection g1 with g10 g11
    injection g10 with g10
    subst g10
    have hc0 := u2 0 (.int .i64 8) (by rw [hu]; rfl)
    have hc1 : w.cell? ⟨b, o, none⟩ = some (.int .i64 8) := by simpa using hc0
    rw [hb] at q5
    refine ⟨xk, xa, xn, xc, xd0, xm0, xe0, b, o, c, xd2, xm2, xe2, xd3, xm3, xe3, ?_, World.block_lt_of_cell? w _ hc1, hc1⟩
    rw [hf, q0, q1, q5]
    rfl
  ·
   cases h0
theorem Gr.al3_form {w : World} {K : Nat → Prop} {n : Nat} {vs : List Value} (h : At w K n 0 vs Gr.al3N) : ∃ (s : ByteArray) (sa : Option Addr) (sn sc : Nat) (pa : Option Addr) (pn pc : Nat), vs = [.int .i64 3, .string s, .slice sa sn sc, .slice pa pn pc] := by
 cases n with
 | zero => exact h.elim
 | succ n =>
  obtain ⟨xi, xs, xa, xn, xc, xd, xm, xe, hf⟩ := h.ty_form
  obtain ⟨i0, s1, p2, x2, v0, l0, hv, hn, -⟩ := h.ty
  unfold Gr.al3N Gr.tyN at hn
  injection hn with e1 e2
  injection e1 with e10 e11
  injection e10 with e10
  subst e10
  rw [hf] at hv
  injection hv with q0 hv
  injection q0 with _ q0
  exact ⟨xs, xa, xn, xc, xd, xm, xe, by rw [hf, q0]⟩

set_option maxHeartbeats 4000000 in
set_option maxRecDepth 100000 in
theorem parseAlive (w : World) (hE : Er w) : Calls Tryz.prog 12 #[] w fun e w' => e = .returned (.bool true) ∧ Below w.heap.size w w' := by
 have c1 : Hid (∀ W, Er W → Calls Tryz.prog 9 #[.string ⟨#[102, 32, 120, 32, 43, 32, 49]⟩] W (Gr.WAns 2 [.int .i64 0, .int .i64 0, .int .i64 0, .slice none 0 0, .slice none 0 0, .slice none 0 0, .slice none 0 0, .slice none 0 0] W (.node Gr.al1N))) := fun W h => by have e : Gr.whole .exp Nd.rightX ((⟨#[102, 32, 120, 32, 43, 32, 49]⟩ : ByteArray).data.toList) = _ := Gr.al1_whole; have := gr_Exp ⟨#[102, 32, 120, 32, 43, 32, 49]⟩ (by decide) W h; rw [e] at this; exact this
 have c2 : Hid (∀ W, Er W → Calls Tryz.prog 9 #[.string ⟨#[97, 32, 60, 32, 98, 32, 60, 32, 99]⟩] W (Gr.WAns 2 [.int .i64 0, .int .i64 0, .int .i64 0, .slice none 0 0, .slice none 0 0, .slice none 0 0, .slice none 0 0, .slice none 0 0] W (.err 6 11))) := fun W h => by have e : Gr.whole .exp Nd.rightX ((⟨#[97, 32, 60, 32, 98, 32, 60, 32, 99]⟩ : ByteArray).data.toList) = _ := Gr.al2_whole; have := gr_Exp ⟨#[97, 32, 60, 32, 98, 32, 60, 32, 99]⟩ (by decide) W h; rw [e] at this; exact this
 have c3 : Hid (∀ W, Er W → Calls Tryz.prog 16 #[.string ⟨#[105, 110, 116, 32, 42, 32, 98, 111, 111, 108, 32, 45, 62, 32, 39, 97]⟩] W (Gr.WAns 0 [.int .i64 0, .string ⟨#[]⟩, .slice none 0 0, .slice none 0 0] W (.node Gr.al3N))) := fun W h => by have e : Gr.whole .ty Nd.rightTy ((⟨#[105, 110, 116, 32, 42, 32, 98, 111, 111, 108, 32, 45, 62, 32, 39, 97]⟩ : ByteArray).data.toList) = _ := Gr.al3_whole; have := gr_Ty ⟨#[105, 110, 116, 32, 42, 32, 98, 111, 111, 108, 32, 45, 62, 32, 39, 97]⟩ (by decide) W h; rw [e] at this; exact this
 have HE : Hid (Er w) := hE
 clear hE
 go_enter Tryz.func12, Tryz.ntmps12
 go_wp2_with (first
  | (go_at_call 16; refine (c3.out _ (HE.out.below (bl_tr hB2 (bl_new w2 (.cells #[.int .i64 0, .int .i64 0, .int .i64 0, .slice none 0 0, .slice none 0 0, .slice none 0 0, .slice none 0 0, .slice none 0 0] 28))) (Nat.le_refl _))).mono ?_; rintro e w3 ⟨⟨us, n, rfl, hx⟩, hb⟩; obtain ⟨s3, ya, yn, yc, za, zn, zc, rfl⟩ := Gr.al3_form hx; have hm3 : Hid (Bx (w3.alloc (.cells #[.int .i64 3, .string s3, .slice ya yn yc, .slice za zn zc] 41)) w1.heap.size [.int .i64 13, .int .i64 1, .int .i64 j, .slice sa sn sc, .slice pa pn pc, .slice (some ⟨b, o, none⟩) 2 c, .slice da dn dc, .slice ta tn tc]) := ((hm2.out.below (bl_new w2 (.cells #[.int .i64 0, .int .i64 0, .int .i64 0, .slice none 0 0, .slice none 0 0, .slice none 0 0, .slice none 0 0, .slice none 0 0] 28))).below hb).below (bl_new w3 (.cells #[.int .i64 3, .string s3, .slice ya yn yc, .slice za zn zc] 41)); have hB3 : Below w.heap.size w (w3.alloc (.cells #[.int .i64 3, .string s3, .slice ya yn yc, .slice za zn zc] 41)) := bl_alloc (bl_tr (bl_tr hB2 (bl_new w2 (.cells #[.int .i64 0, .int .i64 0, .int .i64 0, .slice none 0 0, .slice none 0 0, .slice none 0 0, .slice none 0 0, .slice none 0 0] 28))) hb) _; have hc3 : (w3.alloc (.cells #[.int .i64 3, .string s3, .slice ya yn yc, .slice za zn zc] 41)).cell? ⟨b, o, none⟩ = some (.int .i64 8) := ((bl_new w3 (.cells #[.int .i64 3, .string s3, .slice ya yn yc, .slice za zn zc] 41)).cell (World.block_lt_of_cell? _ _ ((hb.cell (World.block_lt_of_cell? _ _ ((bl_new w2 (.cells #[.int .i64 0, .int .i64 0, .int .i64 0, .slice none 0 0, .slice none 0 0, .slice none 0 0, .slice none 0 0, .slice none 0 0] 28)).cell hbl2 |>.trans hc2))).trans ((bl_new w2 (.cells #[.int .i64 0, .int .i64 0, .int .i64 0, .slice none 0 0, .slice none 0 0, .slice none 0 0, .slice none 0 0, .slice none 0 0] 28)).cell hbl2 |>.trans hc2)))).trans ((hb.cell (World.block_lt_of_cell? _ _ ((bl_new w2 (.cells #[.int .i64 0, .int .i64 0, .int .i64 0, .slice none 0 0, .slice none 0 0, .slice none 0 0, .slice none 0 0, .slice none 0 0] 28)).cell hbl2 |>.trans hc2))).trans ((bl_new w2 (.cells #[.int .i64 0, .int .i64 0, .int .i64 0, .slice none 0 0, .slice none 0 0, .slice none 0 0, .slice none 0 0, .slice none 0 0] 28)).cell hbl2 |>.trans hc2)); obtain ⟨⟨k0, k1, k2, k3, k4, k5, k6, k7⟩, z0, z1, z2, z3, z4, z5, z6, z7⟩ := hm3.out.e8; obtain ⟨⟨tk0, tk1, tk2, tk3⟩, tz0, tz1, tz2, tz3⟩ := (Bx.new w3 [.int .i64 3, .string s3, .slice ya yn yc, .slice za zn zc] 41).e4; clear hx hb)
  | (go_at_call 9; have _ := m1; refine (c2.out _ (HE.out.below hB1 (Nat.le_refl _))).mono ?_; rintro e w2 ⟨rfl, hb⟩; have hm2 : Hid (Bx w2 w1.heap.size [.int .i64 13, .int .i64 1, .int .i64 j, .slice sa sn sc, .slice pa pn pc, .slice (some ⟨b, o, none⟩) 2 c, .slice da dn dc, .slice ta tn tc]) := hm1.out.below hb; have hB2 : Below w.heap.size w w2 := bl_tr hB1 hb; have hbl2 : b < w2.heap.size := Nat.lt_of_lt_of_le hbl1 hb.size; have hc2 : w2.cell? ⟨b, o, none⟩ = some (.int .i64 8) := (hb.cell hbl1).trans hc1; clear hb m1)
  | (go_at_call 9; refine (c1.out _ HE.out).mono ?_; rintro e w1 ⟨⟨vs, n, rfl, hx⟩, hb⟩; obtain ⟨j, sa, sn, sc, pa, pn, pc, b, o, c, da, dn, dc, ta, tn, tc, rfl, hbl, hc⟩ := Gr.al1_form hx; have hm1 : Hid (Bx (w1.alloc (.cells #[.int .i64 13, .int .i64 1, .int .i64 j, .slice sa sn sc, .slice pa pn pc, .slice (some ⟨b, o, none⟩) 2 c, .slice da dn dc, .slice ta tn tc] 28)) w1.heap.size [.int .i64 13, .int .i64 1, .int .i64 j, .slice sa sn sc, .slice pa pn pc, .slice (some ⟨b, o, none⟩) 2 c, .slice da dn dc, .slice ta tn tc]) := Bx.new w1 [.int .i64 13, .int .i64 1, .int .i64 j, .slice sa sn sc, .slice pa pn pc, .slice (some ⟨b, o, none⟩) 2 c, .slice da dn dc, .slice ta tn tc] 28; have hB1 : Below w.heap.size w (w1.alloc (.cells #[.int .i64 13, .int .i64 1, .int .i64 j, .slice sa sn sc, .slice pa pn pc, .slice (some ⟨b, o, none⟩) 2 c, .slice da dn dc, .slice ta tn tc] 28)) := bl_alloc hb _; have hbl1 : b < (w1.alloc (.cells #[.int .i64 13, .int .i64 1, .int .i64 j, .slice sa sn sc, .slice pa pn pc, .slice (some ⟨b, o, none⟩) 2 c, .slice da dn dc, .slice ta tn tc] 28)).heap.size := Nat.lt_of_lt_of_le hbl (bl_new w1 (.cells #[.int .i64 13, .int .i64 1, .int .i64 j, .slice sa sn sc, .slice pa pn pc, .slice (some ⟨b, o, none⟩) 2 c, .slice da dn dc, .slice ta tn tc] 28)).size; have hc1 : (w1.alloc (.cells #[.int .i64 13, .int .i64 1, .int .i64 j, .slice sa sn sc, .slice pa pn pc, .slice (some ⟨b, o, none⟩) 2 c, .slice da dn dc, .slice ta tn tc] 28)).cell? ⟨b, o, none⟩ = some (.int .i64 8) := ((bl_new w1 (.cells #[.int .i64 13, .int .i64 1, .int .i64 j, .slice sa sn sc, .slice pa pn pc, .slice (some ⟨b, o, none⟩) 2 c, .slice da dn dc, .slice ta tn tc] 28)).cell hbl).trans hc; have m1 := True.intro; clear hx hb hc hbl))
 go_ret
 exact ⟨rfl, hB3⟩
def RefSameOf (f : FuncId) (n s : Nat) : Prop := ∀ (w : World) (v1 v2 : Value) (xs ys : List Nd), AtL w Any n s v1 xs → AtL w Any n s v2 ys →
 Calls Tryz.prog f #[v1, v2] w fun e w' => e = .returned (.bool (Nd.eqL xs ys)) ∧ Below w.heap.size w w'
theorem refTexts_b (a b : Value) (xs ys : List ByteArray) (w : World) (ha : Strs w a xs) (hb : Strs w b ys) (hx : xs.length ≤ maxLen) (hy : ys.length ≤ maxLen) :
  Calls Tryz.prog 80 #[a, b] w fun e w' => e = .returned (.bool (decide (xs = ys))) ∧ Below w.heap.size w w' :=
 (refTexts_any a b xs ys w ha hb hx hy).mono fun e w' ⟨h1, n, h2⟩ => ⟨h1, by rw [h2]; exact bl_drewN _ _⟩
theorem Fr.drew {w wc : World} {va vb : List Value} (h : Fr w wc va vb) : Fr w wc.drew va vb := ⟨h.bl.drew, h.sz, h.a, h.b⟩
set_option maxHeartbeats 8000000 in
set_option maxRecDepth 100000 in
theorem refSame0 (n : Nat) (q0 : RefSameOf 43 n 0) : RefSameOf 43 (n + 1) 0 := by
 intro w v1 v2 xs ys h1 h2
 obtain ⟨a1, c1, e1, hx⟩ := h1.form
 obtain ⟨a2, c2, e2, hy⟩ := h2.form
 unfold maxLen at hx hy
 by_cases hl : xs.length = ys.length
 ·
  by_cases h0 : ys = []
  ·
   subst h0
   obtain rfl : xs = [] := List.eq_nil_of_length_eq_zero (by simpa using hl)
   subst e1; subst e2
   clear h1 h2 q0
   go_enter Tryz.func43, Tryz.ntmps43
   go_wp2
   go_loopw [5] (fun v wr => v = .int .i64 0 ∧ wr = w) (fun _ _ => 0)
   case atStart => exact ⟨rfl, rfl⟩
   case round =>
    obtain ⟨rfl, rfl⟩ := hrel
    go_wp2
    go_ret
    exact ⟨ret_bool Nd.eqL_nil.symm, Below.refl _ _⟩
  ·
   have h0x : ¬ xs = [] := fun e => h0 (List.eq_nil_of_length_eq_zero (by rw [← hl, e]; rfl))
   clear e1 e2
   obtain ⟨g1, o1, c1, rfl, -, -, -, k1⟩ := h1.resolve_right (fun h => h0x h.1)
   obtain ⟨g2, o2, c2, rfl, -, -, -, k2⟩ := h2.resolve_right (fun h => h0 h.1)
   have HL : Hid (xs.length = ys.length) := hl
   have hw2 : ys.length = xs.length := hl.symm
   rw [hw2]
   clear h1 h2 hl h0 h0x hy hw2
   go_enter Tryz.func43, Tryz.ntmps43
   go_wp2
   go_loopw [5] (fun v wr => ∃ k : Nat, v = .int .i64 k ∧ k ≤ xs.length ∧ Hid (Nd.eqL xs ys = Nd.eqL (xs.drop k) (ys.drop k)) ∧ Below w.heap.size w wr) (fun v _ => xs.length - (intOf v).toNat)
   case atStart => exact ⟨0, rfl, Nat.zero_le _, rfl, Below.refl _ _⟩
   case round =>
    obtain ⟨k, rfl, hk, hH, hB⟩ := hrel
    by_cases hlt : k < xs.length
    ·
     obtain ⟨x, hxk⟩ : ∃ x, xs[k]? = some x := ⟨_, List.getElem?_eq_getElem hlt⟩
     obtain ⟨y, hyk⟩ : ∃ y, ys[k]? = some y := ⟨_, List.getElem?_eq_getElem (by rw [← HL.out]; exact hlt)⟩
     obtain ⟨va, -, ca, ta⟩ := k1 k x hxk
     obtain ⟨vb, -, cb, tb⟩ := k2 k y hyk
     replace ca := ca.move trivial (Keeps.of_below (K := Any) hB)
     replace cb := cb.move trivial (Keeps.of_below (K := Any) hB)
     replace ta := At.move (Keeps.of_below hB) (fun _ h => h) _ _ _ _ ta
     replace tb := At.move (Keeps.of_below hB) (fun _ h => h) _ _ _ _ tb
     obtain ⟨i0a, s1a, p2a, x2a, v0a, l0a, rfl, rfl, -, -, ⟨tx2a, -, ln2a⟩, k0a⟩ := At.ty ta
     obtain ⟨i0b, s1b, p2b, x2b, v0b, l0b, rfl, rfl, -, -, ⟨tx2b, -, ln2b⟩, k0b⟩ := At.ty tb
     clear ta tb k1 k2
     have TX2a : Hid (∀ w', Below wr.heap.size wr w' → Strs w' p2a x2a) := fun w' h' => (tx2a.move (Keeps.of_below h') (fun _ h => h)).strs
     obtain ⟨pa2a, pc2a, rfl⟩ := tx2a.form
     clear tx2a
     have TX2b : Hid (∀ w', Below wr.heap.size wr w' → Strs w' p2b x2b) := fun w' h' => (tx2b.move (Keeps.of_below h') (fun _ h => h)).strs
     obtain ⟨pa2b, pc2b, rfl⟩ := tx2b.form
     clear tx2b
     have R0 : Hid (∀ w', Below wr.heap.size wr w' → Calls Tryz.prog 43 #[v0a, v0b] w' fun e w'' => e = .returned (.bool (Nd.eqL l0a l0b)) ∧ Below w'.heap.size w' w'') := fun w' h' => q0 w' v0a v0b l0a l0b (k0a.below h') (k0b.below h')
     obtain ⟨da0a, dc0a, rfl, -⟩ := k0a.form
     clear k0a
     obtain ⟨da0b, dc0b, rfl, -⟩ := k0b.form
     clear k0b
     clear q0
     have xc0 : wr.cell? ⟨g1, o1 + k * 4, none⟩ = some (.int .i64 i0a) := ca 0 _ rfl
     have yc0 : wr.cell? ⟨g2, o2 + k * 4, none⟩ = some (.int .i64 i0b) := cb 0 _ rfl
     have xc1 : wr.cell? ⟨g1, o1 + k * 4 + 1, none⟩ = some (.string s1a) := ca 1 _ rfl
     have yc1 : wr.cell? ⟨g2, o2 + k * 4 + 1, none⟩ = some (.string s1b) := cb 1 _ rfl
     have xc2 : wr.cell? ⟨g1, o1 + k * 4 + 2, none⟩ = some (.slice pa2a x2a.length pc2a) := ca 2 _ rfl
     have yc2 : wr.cell? ⟨g2, o2 + k * 4 + 2, none⟩ = some (.slice pa2b x2b.length pc2b) := cb 2 _ rfl
     have xc3 : wr.cell? ⟨g1, o1 + k * 4 + 3, none⟩ = some (.slice da0a l0a.length dc0a) := ca 3 _ rfl
     have yc3 : wr.cell? ⟨g2, o2 + k * 4 + 3, none⟩ = some (.slice da0b l0b.length dc0b) := cb 3 _ rfl
     have hg1 : g1 < wr.heap.size := World.block_lt_of_cell? wr _ xc0
     have hg2 : g2 < wr.heap.size := World.block_lt_of_cell? wr _ yc0
     have hg3 : g1 < wr.heap.size + 1 := Nat.lt_succ_of_lt hg1
     have hg4 : g2 < wr.heap.size + 1 := Nat.lt_succ_of_lt hg2
     clear ca cb
     have HE : Hid (Nd.eqL xs ys = ((decide (i0a = i0b) && (decide (s1a = s1b) && (decide (x2a = x2b) && Nd.eqL l0a l0b))) && Nd.eqL (xs.drop (k + 1)) (ys.drop (k + 1)))) := by
      show _ = _
      rw [hH.out, Nd.eqL_at hxk hyk]
      congr 1
      rw [Bool.eq_iff_iff]
      simp only [Nd.eq_true, Nd.eqL_true, Bool.and_eq_true, decide_eq_true_eq, Nd.mk.injEq, List.cons.injEq, Sc.int.injEq, Sc.str.injEq, Sc.strs.injEq, and_true]
      constructor
      ·
       intro h; simp only [h, and_self]
      ·
       intro h; simp only [h, and_self]
     clear hH hxk hyk
     have hF0 := Fr.start wr [.int .i64 i0a, .string s1a, .slice pa2a x2a.length pc2a, .slice da0a l0a.length dc0a] [.int .i64 i0b, .string s1b, .slice pa2b x2b.length pc2b, .slice da0b l0b.length dc0b] 41
     have hFd := hF0.drew
     have hEd := (Fr.start wr [.int .i64 i0b, .string s1b, .slice pa2b x2b.length pc2b, .slice da0b l0b.length dc0b] [.int .i64 i0a, .string s1a, .slice pa2a x2a.length pc2a, .slice da0a l0a.length dc0a] 41).drew
     by_cases h0 : i0a = i0b
     ·
      subst h0
      rw [decide_eq_true rfl, Bool.true_and] at HE
      by_cases h1 : s1a = s1b
      ·
       subst h1
       rw [decide_eq_true rfl, Bool.true_and] at HE
       have r2 : ∀ w', Strs w' (.slice pa2a x2a.length pc2a) x2a → Strs w' (.slice pa2b x2b.length pc2b) x2b → _ := fun w' h1 h2 => refTexts_b _ _ x2a x2b w' h1 h2 ln2a ln2b
       cases h2 : decide (x2a = x2b) with
       | true =>
        rw [h2, Bool.true_and] at HE
        simp only [h2] at r2
        clear h2
        have r3 := R0.out
        cases h3 : Nd.eqL l0a l0b with
        | true =>
         rw [h3, Bool.true_and] at HE
         simp only [h3] at r3
         clear h3
         go_wp2
         go_region
         all_goals (
          go_wp2_with (first | (go_at_call 43; refine (r3 _ hF1.bl).mono ?_; rintro e w2 ⟨rfl, hb2⟩; have hF2 := hF1.step hb2; clear hb2) | (go_at_call 80; refine (r2 _ (TX2a.out _ hEd.bl) (TX2b.out _ hEd.bl)).mono ?_; rintro e w1 ⟨rfl, hb1⟩; have hF1 := hEd.step hb1; have fa3_0 := hF1.a 3 _ rfl; have fb3_0 := hF1.b 3 _ rfl; clear hb1) | (go_at_call 80; refine (r2 _ (TX2a.out _ hFd.bl) (TX2b.out _ hFd.bl)).mono ?_; rintro e w1 ⟨rfl, hb1⟩; have hF1 := hFd.step hb1; have fa3_0 := hF1.a 3 _ rfl; have fb3_0 := hF1.b 3 _ rfl; clear hb1))
          go_roundw
          case rel => exact ⟨k + 1, by go_num, by omega, HE, (bl_tr hB hF2.bl)⟩
          case measure => simp [intOf]; omega)
        | false =>
         rw [h3, Bool.false_and] at HE
         simp only [h3] at r3
         clear h3
         go_wp2
         go_region
         all_goals (
          go_wp2_with (first | (go_at_call 43; refine (r3 _ hF1.bl).mono ?_; rintro e w2 ⟨rfl, hb2⟩; have hF2 := hF1.step hb2; clear hb2) | (go_at_call 80; refine (r2 _ (TX2a.out _ hEd.bl) (TX2b.out _ hEd.bl)).mono ?_; rintro e w1 ⟨rfl, hb1⟩; have hF1 := hEd.step hb1; have fa3_0 := hF1.a 3 _ rfl; have fb3_0 := hF1.b 3 _ rfl; clear hb1) | (go_at_call 80; refine (r2 _ (TX2a.out _ hFd.bl) (TX2b.out _ hFd.bl)).mono ?_; rintro e w1 ⟨rfl, hb1⟩; have hF1 := hFd.step hb1; have fa3_0 := hF1.a 3 _ rfl; have fb3_0 := hF1.b 3 _ rfl; clear hb1))
          go_ret
          exact ⟨ret_bool (HE.out.symm), (bl_tr hB hF2.bl)⟩)
       | false =>
        rw [h2, Bool.false_and, Bool.false_and] at HE
        simp only [h2] at r2
        clear h2
        go_wp2
        go_region
        all_goals (
         go_wp2_with (first | (go_at_call 80; refine (r2 _ (TX2a.out _ hEd.bl) (TX2b.out _ hEd.bl)).mono ?_; rintro e w1 ⟨rfl, hb1⟩; have hF1 := hEd.step hb1; clear hb1) | (go_at_call 80; refine (r2 _ (TX2a.out _ hFd.bl) (TX2b.out _ hFd.bl)).mono ?_; rintro e w1 ⟨rfl, hb1⟩; have hF1 := hFd.step hb1; clear hb1))
         go_ret
         exact ⟨ret_bool (HE.out.symm), (bl_tr hB hF1.bl)⟩)
      ·
       rw [decide_eq_false h1, Bool.false_and, Bool.false_and] at HE
       have gq1 : (s1a.toList == s1b.toList) = false := by rw [Nm.str_eq, decide_eq_false h1]
       clear h1
       go_wp2
       go_region
       all_goals (
        go_wp2
        go_ret
        exact ⟨ret_bool (HE.out.symm), (bl_tr hB (by first | exact hFd.bl | exact hEd.bl))⟩)
     ·
      rw [decide_eq_false h0, Bool.false_and, Bool.false_and] at HE
      have gq0 : (i0a == i0b) = false := by rw [beq_eq_false_iff_ne]; exact h0
      have gn0 : (i0a != i0b) = true := by rw [bne_iff_ne]; exact h0
      go_wp2
      go_region
      all_goals (
       go_wp2
       go_ret
       exact ⟨ret_bool (HE.out.symm), (bl_tr hB (by first | exact hFd.bl | exact hEd.bl))⟩)
    ·
     have HX : Hid (Nd.eqL xs ys = true) := by
      show _ = _
      rw [hH.out, List.drop_eq_nil_of_le (by omega), List.drop_eq_nil_of_le (by have := HL.out; omega)]; exact Nd.eqL_nil
     clear hH k1 k2 q0
     go_wp2
     go_ret
     exact ⟨ret_bool HX.out.symm, hB⟩
 ·
  have H : Hid (Nd.eqL xs ys = false) := Nd.eqL_len hl
  subst e1; subst e2
  have hl2 : ((xs.length : Int) == (ys.length : Int)) = false := by rw [beq_eq_false_iff_ne]; omega
  clear h1 h2 hl q0
  go_enter Tryz.func43, Tryz.ntmps43
  go_wp2
  go_ret
  exact ⟨ret_bool H.out.symm, Below.refl _ _⟩

set_option maxHeartbeats 8000000 in
set_option maxRecDepth 100000 in
theorem refSame1 (n : Nat) (q1 : RefSameOf 37 n 1) : RefSameOf 37 (n + 1) 1 := by
 intro w v1 v2 xs ys h1 h2
 obtain ⟨a1, c1, e1, hx⟩ := h1.form
 obtain ⟨a2, c2, e2, hy⟩ := h2.form
 unfold maxLen at hx hy
 by_cases hl : xs.length = ys.length
 ·
  by_cases h0 : ys = []
  ·
   subst h0
   obtain rfl : xs = [] := List.eq_nil_of_length_eq_zero (by simpa using hl)
   subst e1; subst e2
   clear h1 h2 q1
   go_enter Tryz.func37, Tryz.ntmps37
   go_wp2
   go_loopw [5] (fun v wr => v = .int .i64 0 ∧ wr = w) (fun _ _ => 0)
   case atStart => exact ⟨rfl, rfl⟩
   case round =>
    obtain ⟨rfl, rfl⟩ := hrel
    go_wp2
    go_ret
    exact ⟨ret_bool Nd.eqL_nil.symm, Below.refl _ _⟩
  ·
   have h0x : ¬ xs = [] := fun e => h0 (List.eq_nil_of_length_eq_zero (by rw [← hl, e]; rfl))
   clear e1 e2
   obtain ⟨g1, o1, c1, rfl, -, -, -, k1⟩ := h1.resolve_right (fun h => h0x h.1)
   obtain ⟨g2, o2, c2, rfl, -, -, -, k2⟩ := h2.resolve_right (fun h => h0 h.1)
   have HL : Hid (xs.length = ys.length) := hl
   have hw2 : ys.length = xs.length := hl.symm
   rw [hw2]
   clear h1 h2 hl h0 h0x hy hw2
   go_enter Tryz.func37, Tryz.ntmps37
   go_wp2
   go_loopw [5] (fun v wr => ∃ k : Nat, v = .int .i64 k ∧ k ≤ xs.length ∧ Hid (Nd.eqL xs ys = Nd.eqL (xs.drop k) (ys.drop k)) ∧ Below w.heap.size w wr) (fun v _ => xs.length - (intOf v).toNat)
   case atStart => exact ⟨0, rfl, Nat.zero_le _, rfl, Below.refl _ _⟩
   case round =>
    obtain ⟨k, rfl, hk, hH, hB⟩ := hrel
    by_cases hlt : k < xs.length
    ·
     obtain ⟨x, hxk⟩ : ∃ x, xs[k]? = some x := ⟨_, List.getElem?_eq_getElem hlt⟩
     obtain ⟨y, hyk⟩ : ∃ y, ys[k]? = some y := ⟨_, List.getElem?_eq_getElem (by rw [← HL.out]; exact hlt)⟩
     obtain ⟨va, -, ca, ta⟩ := k1 k x hxk
     obtain ⟨vb, -, cb, tb⟩ := k2 k y hyk
     replace ca := ca.move trivial (Keeps.of_below (K := Any) hB)
     replace cb := cb.move trivial (Keeps.of_below (K := Any) hB)
     replace ta := At.move (Keeps.of_below hB) (fun _ h => h) _ _ _ _ ta
     replace tb := At.move (Keeps.of_below hB) (fun _ h => h) _ _ _ _ tb
     obtain ⟨i0a, s1a, p2a, x2a, i3a, v0a, l0a, rfl, rfl, -, -, ⟨tx2a, -, ln2a⟩, -, k0a⟩ := At.pat ta
     obtain ⟨i0b, s1b, p2b, x2b, i3b, v0b, l0b, rfl, rfl, -, -, ⟨tx2b, -, ln2b⟩, -, k0b⟩ := At.pat tb
     clear ta tb k1 k2
     have TX2a : Hid (∀ w', Below wr.heap.size wr w' → Strs w' p2a x2a) := fun w' h' => (tx2a.move (Keeps.of_below h') (fun _ h => h)).strs
     obtain ⟨pa2a, pc2a, rfl⟩ := tx2a.form
     clear tx2a
     have TX2b : Hid (∀ w', Below wr.heap.size wr w' → Strs w' p2b x2b) := fun w' h' => (tx2b.move (Keeps.of_below h') (fun _ h => h)).strs
     obtain ⟨pa2b, pc2b, rfl⟩ := tx2b.form
     clear tx2b
     have R0 : Hid (∀ w', Below wr.heap.size wr w' → Calls Tryz.prog 37 #[v0a, v0b] w' fun e w'' => e = .returned (.bool (Nd.eqL l0a l0b)) ∧ Below w'.heap.size w' w'') := fun w' h' => q1 w' v0a v0b l0a l0b (k0a.below h') (k0b.below h')
     obtain ⟨da0a, dc0a, rfl, -⟩ := k0a.form
     clear k0a
     obtain ⟨da0b, dc0b, rfl, -⟩ := k0b.form
     clear k0b
     clear q1
     have xc0 : wr.cell? ⟨g1, o1 + k * 5, none⟩ = some (.int .i64 i0a) := ca 0 _ rfl
     have yc0 : wr.cell? ⟨g2, o2 + k * 5, none⟩ = some (.int .i64 i0b) := cb 0 _ rfl
     have xc1 : wr.cell? ⟨g1, o1 + k * 5 + 1, none⟩ = some (.string s1a) := ca 1 _ rfl
     have yc1 : wr.cell? ⟨g2, o2 + k * 5 + 1, none⟩ = some (.string s1b) := cb 1 _ rfl
     have xc2 : wr.cell? ⟨g1, o1 + k * 5 + 2, none⟩ = some (.slice pa2a x2a.length pc2a) := ca 2 _ rfl
     have yc2 : wr.cell? ⟨g2, o2 + k * 5 + 2, none⟩ = some (.slice pa2b x2b.length pc2b) := cb 2 _ rfl
     have xc3 : wr.cell? ⟨g1, o1 + k * 5 + 3, none⟩ = some (.int .i64 i3a) := ca 3 _ rfl
     have yc3 : wr.cell? ⟨g2, o2 + k * 5 + 3, none⟩ = some (.int .i64 i3b) := cb 3 _ rfl
     have xc4 : wr.cell? ⟨g1, o1 + k * 5 + 4, none⟩ = some (.slice da0a l0a.length dc0a) := ca 4 _ rfl
     have yc4 : wr.cell? ⟨g2, o2 + k * 5 + 4, none⟩ = some (.slice da0b l0b.length dc0b) := cb 4 _ rfl
     have hg1 : g1 < wr.heap.size := World.block_lt_of_cell? wr _ xc0
     have hg2 : g2 < wr.heap.size := World.block_lt_of_cell? wr _ yc0
     have hg3 : g1 < wr.heap.size + 1 := Nat.lt_succ_of_lt hg1
     have hg4 : g2 < wr.heap.size + 1 := Nat.lt_succ_of_lt hg2
     clear ca cb
     have HE : Hid (Nd.eqL xs ys = ((decide (i0a = i0b) && (decide (s1a = s1b) && (decide (i3a = i3b) && (decide (x2a = x2b) && Nd.eqL l0a l0b)))) && Nd.eqL (xs.drop (k + 1)) (ys.drop (k + 1)))) := by
      show _ = _
      rw [hH.out, Nd.eqL_at hxk hyk]
      congr 1
      rw [Bool.eq_iff_iff]
      simp only [Nd.eq_true, Nd.eqL_true, Bool.and_eq_true, decide_eq_true_eq, Nd.mk.injEq, List.cons.injEq, Sc.int.injEq, Sc.str.injEq, Sc.strs.injEq, and_true]
      constructor
      ·
       intro h; simp only [h, and_self]
      ·
       intro h; simp only [h, and_self]
     clear hH hxk hyk
     have hF0 := Fr.start wr [.int .i64 i0a, .string s1a, .slice pa2a x2a.length pc2a, .int .i64 i3a, .slice da0a l0a.length dc0a] [.int .i64 i0b, .string s1b, .slice pa2b x2b.length pc2b, .int .i64 i3b, .slice da0b l0b.length dc0b] 36
     have hFd := hF0.drew
     have hEd := (Fr.start wr [.int .i64 i0b, .string s1b, .slice pa2b x2b.length pc2b, .int .i64 i3b, .slice da0b l0b.length dc0b] [.int .i64 i0a, .string s1a, .slice pa2a x2a.length pc2a, .int .i64 i3a, .slice da0a l0a.length dc0a] 36).drew
     by_cases h0 : i0a = i0b
     ·
      subst h0
      rw [decide_eq_true rfl, Bool.true_and] at HE
      by_cases h1 : s1a = s1b
      ·
       subst h1
       rw [decide_eq_true rfl, Bool.true_and] at HE
       by_cases h2 : i3a = i3b
       ·
        subst h2
        rw [decide_eq_true rfl, Bool.true_and] at HE
        have r2 : ∀ w', Strs w' (.slice pa2a x2a.length pc2a) x2a → Strs w' (.slice pa2b x2b.length pc2b) x2b → _ := fun w' h1 h2 => refTexts_b _ _ x2a x2b w' h1 h2 ln2a ln2b
        cases h3 : decide (x2a = x2b) with
        | true =>
         rw [h3, Bool.true_and] at HE
         simp only [h3] at r2
         clear h3
         have r4 := R0.out
         cases h4 : Nd.eqL l0a l0b with
         | true =>
          rw [h4, Bool.true_and] at HE
          simp only [h4] at r4
          clear h4
          go_wp2
          go_region
          all_goals (
           go_wp2_with (first | (go_at_call 37; refine (r4 _ hF1.bl).mono ?_; rintro e w2 ⟨rfl, hb2⟩; have hF2 := hF1.step hb2; clear hb2) | (go_at_call 80; refine (r2 _ (TX2a.out _ hEd.bl) (TX2b.out _ hEd.bl)).mono ?_; rintro e w1 ⟨rfl, hb1⟩; have hF1 := hEd.step hb1; have fa4_0 := hF1.a 4 _ rfl; have fb4_0 := hF1.b 4 _ rfl; clear hb1) | (go_at_call 80; refine (r2 _ (TX2a.out _ hFd.bl) (TX2b.out _ hFd.bl)).mono ?_; rintro e w1 ⟨rfl, hb1⟩; have hF1 := hFd.step hb1; have fa4_0 := hF1.a 4 _ rfl; have fb4_0 := hF1.b 4 _ rfl; clear hb1))
           go_roundw
           case rel => exact ⟨k + 1, by go_num, by omega, HE, (bl_tr hB hF2.bl)⟩
           case measure => simp [intOf]; omega)
         | false =>
          rw [h4, Bool.false_and] at HE
          simp only [h4] at r4
          clear h4
          go_wp2
          go_region
          all_goals (
           go_wp2_with (first | (go_at_call 37; refine (r4 _ hF1.bl).mono ?_; rintro e w2 ⟨rfl, hb2⟩; have hF2 := hF1.step hb2; clear hb2) | (go_at_call 80; refine (r2 _ (TX2a.out _ hEd.bl) (TX2b.out _ hEd.bl)).mono ?_; rintro e w1 ⟨rfl, hb1⟩; have hF1 := hEd.step hb1; have fa4_0 := hF1.a 4 _ rfl; have fb4_0 := hF1.b 4 _ rfl; clear hb1) | (go_at_call 80; refine (r2 _ (TX2a.out _ hFd.bl) (TX2b.out _ hFd.bl)).mono ?_; rintro e w1 ⟨rfl, hb1⟩; have hF1 := hFd.step hb1; have fa4_0 := hF1.a 4 _ rfl; have fb4_0 := hF1.b 4 _ rfl; clear hb1))
           go_ret
           exact ⟨ret_bool (HE.out.symm), (bl_tr hB hF2.bl)⟩)
        | false =>
         rw [h3, Bool.false_and, Bool.false_and] at HE
         simp only [h3] at r2
         clear h3
         go_wp2
         go_region
         all_goals (
          go_wp2_with (first | (go_at_call 80; refine (r2 _ (TX2a.out _ hEd.bl) (TX2b.out _ hEd.bl)).mono ?_; rintro e w1 ⟨rfl, hb1⟩; have hF1 := hEd.step hb1; clear hb1) | (go_at_call 80; refine (r2 _ (TX2a.out _ hFd.bl) (TX2b.out _ hFd.bl)).mono ?_; rintro e w1 ⟨rfl, hb1⟩; have hF1 := hFd.step hb1; clear hb1))
          go_ret
          exact ⟨ret_bool (HE.out.symm), (bl_tr hB hF1.bl)⟩)
       ·
        rw [decide_eq_false h2, Bool.false_and, Bool.false_and] at HE
        have gq2 : (i3a == i3b) = false := by rw [beq_eq_false_iff_ne]; exact h2
        have gn2 : (i3a != i3b) = true := by rw [bne_iff_ne]; exact h2
        go_wp2
        go_region
        all_goals (
         go_wp2
         go_ret
         exact ⟨ret_bool (HE.out.symm), (bl_tr hB (by first | exact hFd.bl | exact hEd.bl))⟩)
      ·
       rw [decide_eq_false h1, Bool.false_and, Bool.false_and] at HE
       have gq1 : (s1a.toList == s1b.toList) = false := by rw [Nm.str_eq, decide_eq_false h1]
       clear h1
       go_wp2
       go_region
       all_goals (
        go_wp2
        go_ret
        exact ⟨ret_bool (HE.out.symm), (bl_tr hB (by first | exact hFd.bl | exact hEd.bl))⟩)
     ·
      rw [decide_eq_false h0, Bool.false_and, Bool.false_and] at HE
      have gq0 : (i0a == i0b) = false := by rw [beq_eq_false_iff_ne]; exact h0
      have gn0 : (i0a != i0b) = true := by rw [bne_iff_ne]; exact h0
      go_wp2
      go_region
      all_goals (
       go_wp2
       go_ret
       exact ⟨ret_bool (HE.out.symm), (bl_tr hB (by first | exact hFd.bl | exact hEd.bl))⟩)
    ·
     have HX : Hid (Nd.eqL xs ys = true) := by
      show _ = _
      rw [hH.out, List.drop_eq_nil_of_le (by omega), List.drop_eq_nil_of_le (by have := HL.out; omega)]; exact Nd.eqL_nil
     clear hH k1 k2 q1
     go_wp2
     go_ret
     exact ⟨ret_bool HX.out.symm, hB⟩
 ·
  have H : Hid (Nd.eqL xs ys = false) := Nd.eqL_len hl
  subst e1; subst e2
  have hl2 : ((xs.length : Int) == (ys.length : Int)) = false := by rw [beq_eq_false_iff_ne]; omega
  clear h1 h2 hl q1
  go_enter Tryz.func37, Tryz.ntmps37
  go_wp2
  go_ret
  exact ⟨ret_bool H.out.symm, Below.refl _ _⟩

end Go.Proofs.YtjebepnphoeiaaaGreatDoor
