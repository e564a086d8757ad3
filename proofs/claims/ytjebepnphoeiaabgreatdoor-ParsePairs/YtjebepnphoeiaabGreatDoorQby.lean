/- Pieces: GrEa GrEs LexSame LexR BlanksW GrEq GrEm. -/
import Derived.Test.YtjebepnphoeiaabGreatDoorQbv
import Derived.Test.YtjebepnphoeiaabGreatDoorQbx
import Derived.Test.YtjebepnphoeiaabGreatDoorQbd
import Derived.Test.YtjebepnphoeiaabGreatDoorQag
import Derived.Test.YtjebepnphoeiaabGreatDoorQad
import Derived.Deep.CutRange
import Derived.Test.YtjebepnphoeiaabGreatDoorQbu
namespace Go.Proofs.YtjebepnphoeiaabGreatDoor
open Go.RowKit
set_option linter.unusedVariables false
set_option linter.unusedSimpArgs false

theorem Gr.lexN_run {k : Nat} {l : List UInt8} {ts : List Lx.Tok} (h : Lx.lexF k l = .good ts) (hl : l.length ≤ 4096) (hk : ts.length ≤ 1024) : Lx.lex l = .good ts := by
 unfold Lx.lex
 rw [if_neg (by omega)]
 exact Lx.lexN_mono ((Lx.lexF_eq k l).trans h) hk
theorem Gr.g_run {k : Nat} {nt : Gr.Nt} {ts : Gr.Ts} {R : Gr.Res} (h : Gr.g k nt ts = R) (hR : R ≠ .out) (hk : k ≤ Gr.enough) : Gr.g Gr.enough nt ts = R := (Gr.more (by rw [h]; exact hR) hk).trans h
def Gr.al1 : List UInt8 := [102, 32, 120, 32, 43, 32, 49]
def Gr.al2 : List UInt8 := [97, 32, 60, 32, 98, 32, 60, 32, 99]
def Gr.al3 : List UInt8 := [105, 110, 116, 32, 42, 32, 98, 111, 111, 108, 32, 45, 62, 32, 39, 97]
def Gr.al1T : List Lx.Tok := [⟨1, [102], 0, 7⟩, ⟨1, [120], 0, 5⟩, ⟨6, [43], 0, 3⟩, ⟨4, [49], 1, 1⟩]
def Gr.al2T : List Lx.Tok := [⟨1, [97], 0, 9⟩, ⟨6, [60], 0, 7⟩, ⟨1, [98], 0, 5⟩, ⟨6, [60], 0, 3⟩, ⟨1, [99], 0, 1⟩]
def Gr.al3T : List Lx.Tok := [⟨3, [105, 110, 116], 0, 16⟩, ⟨6, [42], 0, 12⟩, ⟨3, [98, 111, 111, 108], 0, 10⟩, ⟨6, [45, 62], 0, 5⟩, ⟨5, [39, 97], 0, 2⟩]
def Gr.v1 (s : List UInt8) : Nd := Gr.expN 5 0 0 [⟨s.toArray⟩] [] [] [] []
def Gr.al1N : Nd := Gr.binN 1 (Gr.expN 8 0 0 [] [] [Gr.v1 [102], Gr.v1 [120]] [] []) (Gr.expN 1 0 1 [] [] [] [] [])
def Gr.al2N : Nd := Gr.binN 6 (Gr.v1 [97]) (Gr.v1 [98])
def Gr.al3N : Nd := Gr.tyN 3 Gr.none8 [] [Gr.tyN 4 Gr.none8 [] [Gr.tyN 2 Gr.none8 [⟨#[105, 110, 116]⟩] [], Gr.tyN 2 Gr.none8 [⟨#[98, 111, 111, 108]⟩] []], Gr.tyN 1 ⟨#[97]⟩ [] []]
theorem Gr.al1_lex : Lx.lex Gr.al1 = .good Gr.al1T := Gr.lexN_run (k := 20) (by kernel_rfl) (by decide) (by decide)
theorem Gr.al2_lex : Lx.lex Gr.al2 = .good Gr.al2T := Gr.lexN_run (k := 20) (by kernel_rfl) (by decide) (by decide)
theorem Gr.al3_lex : Lx.lex Gr.al3 = .good Gr.al3T := Gr.lexN_run (k := 20) (by kernel_rfl) (by decide) (by decide)
theorem Gr.al1_g : Gr.g Gr.enough .exp Gr.al1T = .ok Gr.al1N [] := Gr.g_run (k := 30) (by kernel_rfl) (by simp) (by decide)
theorem Gr.al2_g : Gr.g Gr.enough .exp Gr.al2T = .ok Gr.al2N [⟨6, [60], 0, 3⟩, ⟨1, [99], 0, 1⟩] := Gr.g_run (k := 30) (by kernel_rfl) (by simp) (by decide)
theorem Gr.al3_g : Gr.g Gr.enough .ty Gr.al3T = .ok Gr.al3N [] := Gr.g_run (k := 30) (by kernel_rfl) (by simp) (by decide)
theorem Gr.al1_right : Nd.rightX Gr.al1N = 0 := by kernel_rfl
theorem Gr.al3_right : Nd.rightTy Gr.al3N = 0 := by kernel_rfl
theorem Gr.al1_whole : Gr.whole .exp Nd.rightX Gr.al1 = .node Gr.al1N := by unfold Gr.whole; rw [Gr.al1_lex]; simp only; rw [Gr.al1_g]; simp only; rw [if_pos Gr.al1_right]
theorem Gr.al2_whole : Gr.whole .exp Nd.rightX Gr.al2 = .err 6 11 := by unfold Gr.whole; rw [Gr.al2_lex]; simp only; rw [Gr.al2_g]; rfl
theorem Gr.al3_whole : Gr.whole .ty Nd.rightTy Gr.al3 = .node Gr.al3N := by unfold Gr.whole; rw [Gr.al3_lex]; simp only; rw [Gr.al3_g]; simp only; rw [if_pos Gr.al3_right]
theorem Gr.al1_form {w : World} {K : Nat → Prop} {n : Nat} {vs : List Value} (h : At w K n 2 vs Gr.al1N) : ∃ (j : Int) (sa : Option Addr) (sn sc : Nat) (pa : Option Addr) (pn pc : Nat) (b o c : Nat) (da : Option Addr) (dn dc : Nat) (ta : Option Addr) (tn tc : Nat), vs = [.int .i64 13, .int .i64 1, .int .i64 j, .slice sa sn sc, .slice pa pn pc, .slice (some ⟨b, o, none⟩) 2 c, .slice da dn dc, .slice ta tn tc] ∧ b < w.heap.size ∧ w.cell? ⟨b, o, none⟩ = some (.int .i64 8) := by
 cases n with
 | zero => exact h.elim
 | succ n =>
  obtain ⟨xi, xj, xk, xa, xn, xc, xd0, xm0, xe0, xd1, xm1, xe1, xd2, xm2, xe2, xd3, xm3, xe3, hf⟩ := h.exp_form
  obtain ⟨i0, i1, i2, p3, x3, v0, l0, v1, l1, v2, l2, v3, l3, hv, hn, -, -, -, -, -, k1, -, -⟩ := h.exp
  unfold Gr.al1N Gr.binN Gr.expN at hn
  injection hn with e1 e2
  injection e1 with e10 e11
  injection e11 with e12 e13
  injection e10 with e10
  injection e12 with e12
  injection e2 with e20 e21
  injection e21 with e22 e23
  subst e10; subst e12; subst e22
  rw [hf] at hv
  injection hv with q0 hv
  injection hv with q1 hv
  injection hv with q2 hv
  injection hv with q3 hv
  injection hv with q4 hv
  injection hv with q5 hv
  injection q0 with _ q0
  injection q1 with _ q1
  rcases k1 with ⟨b, o, c, hb, -, -, -, hc⟩ | ⟨h0, -⟩
  ·
   obtain ⟨us, u1, u2, u3⟩ := hc 0 _ rfl
   cases n with
   | zero => exact u3.elim
   | succ n =>
    obtain ⟨j0, j1, j2, p3, y3, w0, m0, w1, m1, w2, m2, w3, m3, hu, hm, -⟩ := u3.exp
    injection hm with g1 g2
    injection g1 with g10 g11
    injection g10 with g10
    subst g10
    have hc0 := u2 0 (.int .i64 8) (by rw [hu]; rfl)
    have hc1 : w.cell? ⟨b, o, none⟩ = some (.int .i64 8) := by simpa using hc0
    rw [hb] at q5
    refine ⟨xk, xa, xn, xc, xd0, xm0, xe0, b, o, c, xd2, xm2, xe2, xd3, xm3, xe3, ?_, World.block_lt_of_cell? w _ hc1, hc1⟩
    rw [hf, q0, q1, q5]
    rfl
  ·
   cases h0
theorem Gr.al3_form {w : World} {K : Nat → Prop} {n : Nat} {vs : List Value} (h : At w K n 0 vs Gr.al3N) : ∃ (s : ByteArray) (sa : Option Addr) (sn sc : Nat) (pa : Option Addr) (pn pc : Nat), vs = [.int .i64 3, .string s, .slice sa sn sc, .slice pa pn pc] := by
 cases n with
 | zero => exact h.elim
 | succ n =>
  obtain ⟨xi, xs, xa, xn, xc, xd, xm, xe, hf⟩ := h.ty_form
  obtain ⟨i0, s1, p2, x2, v0, l0, hv, hn, -⟩ := h.ty
  unfold Gr.al3N Gr.tyN at hn
  injection hn with e1 e2
  injection e1 with e10 e11
  injection e10 with e10
  subst e10
  rw [hf] at hv
  injection hv with q0 hv
  injection q0 with _ q0
  exact ⟨xs, xa, xn, xc, xd, xm, xe, by rw [hf, q0]⟩

set_option maxHeartbeats 4000000 in
set_option maxRecDepth 100000 in
theorem parseAlive (w : World) (hE : Er w) : Calls Tryz.prog 5 #[] w fun e w' => e = .returned (.bool true) ∧ Below w.heap.size w w' := by
 have c1 : Hid (∀ W, Er W → Calls Tryz.prog 4 #[.string ⟨#[102, 32, 120, 32, 43, 32, 49]⟩] W (Gr.WAns 2 [.int .i64 0, .int .i64 0, .int .i64 0, .slice none 0 0, .slice none 0 0, .slice none 0 0, .slice none 0 0, .slice none 0 0] W (.node Gr.al1N))) := fun W h => by have e : Gr.whole .exp Nd.rightX ((⟨#[102, 32, 120, 32, 43, 32, 49]⟩ : ByteArray).data.toList) = _ := Gr.al1_whole; have := gr_Exp ⟨#[102, 32, 120, 32, 43, 32, 49]⟩ (by decide) W h; rw [e] at this; exact this
 have c2 : Hid (∀ W, Er W → Calls Tryz.prog 4 #[.string ⟨#[97, 32, 60, 32, 98, 32, 60, 32, 99]⟩] W (Gr.WAns 2 [.int .i64 0, .int .i64 0, .int .i64 0, .slice none 0 0, .slice none 0 0, .slice none 0 0, .slice none 0 0, .slice none 0 0] W (.err 6 11))) := fun W h => by have e : Gr.whole .exp Nd.rightX ((⟨#[97, 32, 60, 32, 98, 32, 60, 32, 99]⟩ : ByteArray).data.toList) = _ := Gr.al2_whole; have := gr_Exp ⟨#[97, 32, 60, 32, 98, 32, 60, 32, 99]⟩ (by decide) W h; rw [e] at this; exact this
 have c3 : Hid (∀ W, Er W → Calls Tryz.prog 10 #[.string ⟨#[105, 110, 116, 32, 42, 32, 98, 111, 111, 108, 32, 45, 62, 32, 39, 97]⟩] W (Gr.WAns 0 [.int .i64 0, .string ⟨#[]⟩, .slice none 0 0, .slice none 0 0] W (.node Gr.al3N))) := fun W h => by have e : Gr.whole .ty Nd.rightTy ((⟨#[105, 110, 116, 32, 42, 32, 98, 111, 111, 108, 32, 45, 62, 32, 39, 97]⟩ : ByteArray).data.toList) = _ := Gr.al3_whole; have := gr_Ty ⟨#[105, 110, 116, 32, 42, 32, 98, 111, 111, 108, 32, 45, 62, 32, 39, 97]⟩ (by decide) W h; rw [e] at this; exact this
 have HE : Hid (Er w) := hE
 clear hE
 go_enter Tryz.func5, Tryz.ntmps5
 go_wp2_with (first
  | (go_at_call 10; refine (c3.out _ (HE.out.below (bl_tr hB2 (bl_new w2 (.cells #[.int .i64 0, .int .i64 0, .int .i64 0, .slice none 0 0, .slice none 0 0, .slice none 0 0, .slice none 0 0, .slice none 0 0] 28))) (Nat.le_refl _))).mono ?_; rintro e w3 ⟨⟨us, n, rfl, hx⟩, hb⟩; obtain ⟨s3, ya, yn, yc, za, zn, zc, rfl⟩ := Gr.al3_form hx; have hm3 : Hid (Bx (w3.alloc (.cells #[.int .i64 3, .string s3, .slice ya yn yc, .slice za zn zc] 41)) w1.heap.size [.int .i64 13, .int .i64 1, .int .i64 j, .slice sa sn sc, .slice pa pn pc, .slice (some ⟨b, o, none⟩) 2 c, .slice da dn dc, .slice ta tn tc]) := ((hm2.out.below (bl_new w2 (.cells #[.int .i64 0, .int .i64 0, .int .i64 0, .slice none 0 0, .slice none 0 0, .slice none 0 0, .slice none 0 0, .slice none 0 0] 28))).below hb).below (bl_new w3 (.cells #[.int .i64 3, .string s3, .slice ya yn yc, .slice za zn zc] 41)); have hB3 : Below w.heap.size w (w3.alloc (.cells #[.int .i64 3, .string s3, .slice ya yn yc, .slice za zn zc] 41)) := bl_alloc (bl_tr (bl_tr hB2 (bl_new w2 (.cells #[.int .i64 0, .int .i64 0, .int .i64 0, .slice none 0 0, .slice none 0 0, .slice none 0 0, .slice none 0 0, .slice none 0 0] 28))) hb) _; have hc3 : (w3.alloc (.cells #[.int .i64 3, .string s3, .slice ya yn yc, .slice za zn zc] 41)).cell? ⟨b, o, none⟩ = some (.int .i64 8) := ((bl_new w3 (.cells #[.int .i64 3, .string s3, .slice ya yn yc, .slice za zn zc] 41)).cell (World.block_lt_of_cell? _ _ ((hb.cell (World.block_lt_of_cell? _ _ ((bl_new w2 (.cells #[.int .i64 0, .int .i64 0, .int .i64 0, .slice none 0 0, .slice none 0 0, .slice none 0 0, .slice none 0 0, .slice none 0 0] 28)).cell hbl2 |>.trans hc2))).trans ((bl_new w2 (.cells #[.int .i64 0, .int .i64 0, .int .i64 0, .slice none 0 0, .slice none 0 0, .slice none 0 0, .slice none 0 0, .slice none 0 0] 28)).cell hbl2 |>.trans hc2)))).trans ((hb.cell (World.block_lt_of_cell? _ _ ((bl_new w2 (.cells #[.int .i64 0, .int .i64 0, .int .i64 0, .slice none 0 0, .slice none 0 0, .slice none 0 0, .slice none 0 0, .slice none 0 0] 28)).cell hbl2 |>.trans hc2))).trans ((bl_new w2 (.cells #[.int .i64 0, .int .i64 0, .int .i64 0, .slice none 0 0, .slice none 0 0, .slice none 0 0, .slice none 0 0, .slice none 0 0] 28)).cell hbl2 |>.trans hc2)); obtain ⟨⟨k0, k1, k2, k3, k4, k5, k6, k7⟩, z0, z1, z2, z3, z4, z5, z6, z7⟩ := hm3.out.e8; obtain ⟨⟨tk0, tk1, tk2, tk3⟩, tz0, tz1, tz2, tz3⟩ := (Bx.new w3 [.int .i64 3, .string s3, .slice ya yn yc, .slice za zn zc] 41).e4; clear hx hb)
  | (go_at_call 4; have _ := m1; refine (c2.out _ (HE.out.below hB1 (Nat.le_refl _))).mono ?_; rintro e w2 ⟨rfl, hb⟩; have hm2 : Hid (Bx w2 w1.heap.size [.int .i64 13, .int .i64 1, .int .i64 j, .slice sa sn sc, .slice pa pn pc, .slice (some ⟨b, o, none⟩) 2 c, .slice da dn dc, .slice ta tn tc]) := hm1.out.below hb; have hB2 : Below w.heap.size w w2 := bl_tr hB1 hb; have hbl2 : b < w2.heap.size := Nat.lt_of_lt_of_le hbl1 hb.size; have hc2 : w2.cell? ⟨b, o, none⟩ = some (.int .i64 8) := (hb.cell hbl1).trans hc1; clear hb m1)
  | (go_at_call 4; refine (c1.out _ HE.out).mono ?_; rintro e w1 ⟨⟨vs, n, rfl, hx⟩, hb⟩; obtain ⟨j, sa, sn, sc, pa, pn, pc, b, o, c, da, dn, dc, ta, tn, tc, rfl, hbl, hc⟩ := Gr.al1_form hx; have hm1 : Hid (Bx (w1.alloc (.cells #[.int .i64 13, .int .i64 1, .int .i64 j, .slice sa sn sc, .slice pa pn pc, .slice (some ⟨b, o, none⟩) 2 c, .slice da dn dc, .slice ta tn tc] 28)) w1.heap.size [.int .i64 13, .int .i64 1, .int .i64 j, .slice sa sn sc, .slice pa pn pc, .slice (some ⟨b, o, none⟩) 2 c, .slice da dn dc, .slice ta tn tc]) := Bx.new w1 [.int .i64 13, .int .i64 1, .int .i64 j, .slice sa sn sc, .slice pa pn pc, .slice (some ⟨b, o, none⟩) 2 c, .slice da dn dc, .slice ta tn tc] 28; have hB1 : Below w.heap.size w (w1.alloc (.cells #[.int .i64 13, .int .i64 1, .int .i64 j, .slice sa sn sc, .slice pa pn pc, .slice (some ⟨b, o, none⟩) 2 c, .slice da dn dc, .slice ta tn tc] 28)) := bl_alloc hb _; have hbl1 : b < (w1.alloc (.cells #[.int .i64 13, .int .i64 1, .int .i64 j, .slice sa sn sc, .slice pa pn pc, .slice (some ⟨b, o, none⟩) 2 c, .slice da dn dc, .slice ta tn tc] 28)).heap.size := Nat.lt_of_lt_of_le hbl (bl_new w1 (.cells #[.int .i64 13, .int .i64 1, .int .i64 j, .slice sa sn sc, .slice pa pn pc, .slice (some ⟨b, o, none⟩) 2 c, .slice da dn dc, .slice ta tn tc] 28)).size; have hc1 : (w1.alloc (.cells #[.int .i64 13, .int .i64 1, .int .i64 j, .slice sa sn sc, .slice pa pn pc, .slice (some ⟨b, o, none⟩) 2 c, .slice da dn dc, .slice ta tn tc] 28)).cell? ⟨b, o, none⟩ = some (.int .i64 8) := ((bl_new w1 (.cells #[.int .i64 13, .int .i64 1, .int .i64 j, .slice sa sn sc, .slice pa pn pc, .slice (some ⟨b, o, none⟩) 2 c, .slice da dn dc, .slice ta tn tc] 28)).cell hbl).trans hc; have m1 := True.intro; clear hx hb hc hbl))
 go_ret
 exact ⟨rfl, hB3⟩
set_option linter.unusedSimpArgs false
def Gr.Wr.code : Gr.Wr → Int
 | .node _ => 0
 | .err _ c => c
def Gr.Wr.pos : Gr.Wr → Int
 | .node _ => 0
 | .err p _ => p
def Gr.noExp : Nd := Gr.expN 0 0 0 [] [] [] [] []
def Gr.Wr.exp : Gr.Wr → Nd
 | .node nd => nd
 | .err _ _ => Gr.noExp
theorem Gr.noExp_at (w : World) (K : Nat → Prop) : At w K 1 2 [.int .i64 0, .int .i64 0, .int .i64 0, .slice none 0 0, .slice none 0 0, .slice none 0 0, .slice none 0 0, .slice none 0 0] Gr.noExp := At.exp_mk (n := 0) (by decide) (by decide) (by decide) (Tx.none0 ..) (fun x hx => by cases hx) (Nat.zero_le _) (AtL.none0 ..) (AtL.none0 ..) (AtL.none0 ..) (AtL.none0 ..)
theorem gr_Exp_any (s : ByteArray) (hs : s.size ≤ maxLen) (w : World) (hE : Er w) (R : Gr.Wr) (hR : Gr.whole .exp Nd.rightX s.data.toList = R) :
  Calls Tryz.prog 4 #[.string s] w fun e w' => (∃ vs n, e = .returned (.tuple #[.agg vs.toArray, .int .i64 R.pos, .int .i64 R.code]) ∧ At w' Any n 2 vs R.exp) ∧ Below w.heap.size w w' := by
 have h := gr_Exp s hs w hE
 rw [hR] at h
 refine h.mono ?_
 cases R with
 | node nd =>
  rintro e w' ⟨⟨vs, n, he, ha⟩, hb⟩
  exact ⟨⟨vs, n, he, At.move (Keeps.refl _ _) (fun _ _ => trivial) _ _ _ _ ha⟩, hb⟩
 | err p c =>
  rintro e w' ⟨he, hb⟩
  exact ⟨⟨[.int .i64 0, .int .i64 0, .int .i64 0, .slice none 0 0, .slice none 0 0, .slice none 0 0, .slice none 0 0, .slice none 0 0], 1, he, Gr.noExp_at _ _⟩, hb⟩
theorem At.anyB {w w' : World} {n s : Nat} {vs : List Value} {nd : Nd} (h : At w Any n s vs nd) (hb : Below w.heap.size w w') : At w' Any n s vs nd := At.move (Keeps.of_below hb) (fun _ h => h) _ _ _ _ h
theorem sameExp_any (n m : Nat) (w : World) (va vb : List Value) (A B : Nd) (ha : At w Any n 2 va A) (hb : At w Any m 2 vb B) :
  Calls Tryz.prog 6 #[.agg va.toArray, .agg vb.toArray] w fun e w' => e = .returned (.bool (Nd.eq A B)) ∧ Below w.heap.size w w' :=
 refOne2 (max n m) w va vb A B (At.le ha (Nat.le_max_left _ _)) (At.le hb (Nat.le_max_right _ _))
theorem Nd.eq_self (A : Nd) : Nd.eq A A = true := Nd.eq_true.2 rfl
theorem lxStr_eq (x y : ByteArray) : (x.toList == y.toList) = decide (x = y) := by
 rw [Lib.toList_data, Lib.toList_data, Bool.eq_iff_iff, beq_iff_eq, decide_eq_true_iff]
 constructor
 ·
  intro h
  cases x; cases y; congr 1; exact Array.toList_inj.1 h
 ·
  rintro rfl; rfl
structure Lv where
 kind : Int
 text : ByteArray
 n : Int
 place : Int
def Lv.cells (t : Lv) : List Value := [.int .i64 t.kind, .string t.text, .int .i64 t.n, .int .i64 t.place]
def Lv.core (t : Lv) : Int × ByteArray × Int := (t.kind, t.text, t.n)
def LvAt (w : World) (v : Value) (ts : List Lv) : Prop :=
 (ts = [] ∧ ∃ a c, v = .slice a 0 c) ∨ ∃ g o c, v = .slice (some ⟨g, o, none⟩) ts.length c ∧ g < w.heap.size ∧ ∀ i t, ts[i]? = some t → w.cell? ⟨g, o + i * 4, none⟩ = some (.int .i64 t.kind) ∧ w.cell? ⟨g, o + i * 4 + 1, none⟩ = some (.string t.text) ∧ w.cell? ⟨g, o + i * 4 + 2, none⟩ = some (.int .i64 t.n) ∧ w.cell? ⟨g, o + i * 4 + 3, none⟩ = some (.int .i64 t.place)
theorem LvAt.below {w w' : World} {v : Value} {ts : List Lv} {B : Nat} (h : LvAt w v ts) (hb : Below B w w') (hB : w.heap.size ≤ B) : LvAt w' v ts := by
 rcases h with h | ⟨g, o, c, hv, hg, h⟩
 ·
  exact .inl h
 ·
  refine .inr ⟨g, o, c, hv, Nat.lt_of_lt_of_le hg hb.size, fun i t ht => ?_⟩
  have hg2 := Nat.lt_of_lt_of_le hg hB
  obtain ⟨h0, h1, h2, h3⟩ := h i t ht
  exact ⟨(hb.cell hg2).trans h0, (hb.cell hg2).trans h1, (hb.cell hg2).trans h2, (hb.cell hg2).trans h3⟩
theorem LvAt.form {w : World} {v : Value} {ts : List Lv} (h : LvAt w v ts) : ∃ a c, v = .slice a ts.length c := by
 rcases h with ⟨rfl, a, c, rfl⟩ | ⟨g, o, c, rfl, -⟩
 ·
  exact ⟨_, _, rfl⟩
 ·
  exact ⟨_, _, rfl⟩
def Lx.tv (S : Nat) (t : Lx.Tok) : Lv := ⟨t.kind, ⟨t.text.toArray⟩, t.n, ((S - t.left : Nat) : Int)⟩
theorem LvAt.of_own {w : World} {B S : Nat} {v : Value} {ts : List Lx.Tok} (h : w.ownsRow B 77 4 v ts.length (ts.flatMap (Lx.cells S))) : LvAt w v (ts.map (Lx.tv S)) := by
 rcases Toks.of_own h with ⟨rfl, rfl⟩ | ⟨g, c, hv, -, hg, h⟩
 ·
  exact .inl ⟨rfl, _, _, rfl⟩
 ·
  refine .inr ⟨g, 0, c, by rw [List.length_map]; exact hv, hg, fun i t ht => ?_⟩
  rw [List.getElem?_map] at ht
  cases ht2 : ts[i]? with
  | none => rw [ht2] at ht; cases ht
  | some t2 =>
   rw [ht2] at ht
   obtain rfl : Lx.tv S t2 = t := by simpa using ht
   have e : 0 + i * 4 = 4 * i + 0 := by omega
   have hf := Lx.flat_at S ts i t2 ht2
   rw [e]
   exact ⟨h _ _ (hf 0 (by decide)), h _ _ (hf 1 (by decide)), h _ _ (hf 2 (by decide)), h _ _ (hf 3 (by decide))⟩

def Lv.eq (a b : Lv) : Bool := decide (a.core = b.core)
def Lv.same (xs ys : List Lv) : Bool := decide (xs.map Lv.core = ys.map Lv.core)
theorem Lv.same_nil : Lv.same [] [] = true := by simp [Lv.same]
theorem Lv.same_cons (a b : Lv) (xs ys : List Lv) : Lv.same (a :: xs) (b :: ys) = (Lv.eq a b && Lv.same xs ys) := by
 unfold Lv.same Lv.eq
 rw [List.map_cons, List.map_cons, Bool.eq_iff_iff]
 simp
theorem Lv.same_len {xs ys : List Lv} (h : xs.length ≠ ys.length) : Lv.same xs ys = false := by
 unfold Lv.same
 rw [decide_eq_false]
 intro e
 have := congrArg List.length e
 simp at this; exact h this
theorem Lv.same_at {xs ys : List Lv} {k : Nat} {x y : Lv} (hx : xs[k]? = some x) (hy : ys[k]? = some y) : Lv.same (xs.drop k) (ys.drop k) = (Lv.eq x y && Lv.same (xs.drop (k + 1)) (ys.drop (k + 1))) := by
 obtain ⟨h1, e1⟩ := List.getElem?_eq_some_iff.1 hx
 obtain ⟨h2, e2⟩ := List.getElem?_eq_some_iff.1 hy
 rw [List.drop_eq_getElem_cons h1, List.drop_eq_getElem_cons h2, e1, e2, Lv.same_cons]





end Go.Proofs.YtjebepnphoeiaabGreatDoor
namespace Go.Proofs.YtjebepnphoeiaabGreatDoor
set_option linter.unusedVariables false

def Lx.Tok.core (t : Lx.Tok) : Nat × List UInt8 × Nat := (t.kind, t.text, t.n)

theorem Lx.append_lex : ∀ (ts : List Lx.Tok) (c : Nat) (l : List UInt8), Lx.lexN c l = .good ts → ∀ (x : UInt8) (m : List UInt8) (c' : Nat) (us : List Lx.Tok), Lx.blank (x.toNat : Int) = true → Lx.lexN c' m = .good us →
    ∃ ts', ts'.map Lx.Tok.core = ts.map Lx.Tok.core ∧ Lx.lexN (ts.length + c') (l ++ x :: m) = .good (ts' ++ us)
  | [], c, l, h, x, m, c', us, hx, hu => by
    refine ⟨[], rfl, ?_⟩
    rw [List.length_nil, Nat.zero_add, Lx.lexN_skip (l' := m) (by rw [Lx.lexN_good_nil h, Lx.skip_blank hx]), hu]; rfl
  | a :: ts, c, l, h, x, m, c', us, hx, hu => by
    obtain ⟨q, r, c0, rfl, e, hm, hl, ha, h2⟩ := Lx.lexN_uncons h
    obtain ⟨ts', hc, hr⟩ := Lx.append_lex ts c0 r h2 x m c' us hx hu
    have hf : Lx.Fits r (r ++ x :: m) := by
      cases r with
      | nil => exact .inr fun y hy => by have : x = y := by simpa using hy
                                         subst this; exact hx
      | cons y r => exact .inl rfl
    have hs : Lx.skip (l ++ x :: m) = Lx.skip (a.text ++ (r ++ x :: m)) := by rw [e, List.append_assoc, List.append_assoc, hm]
    refine ⟨⟨a.kind, a.text, a.n, (a.text ++ (r ++ x :: m)).length⟩ :: ts', ?_, ?_⟩
    · rw [List.map_cons, List.map_cons, hc]; rfl
    · rw [List.length_cons, show ts.length + 1 + c' = ts.length + c' + 1 by omega, Lx.lexN_cons (ha.swap hf) hs, hr]; rfl

def Lx.joinL : List (List UInt8) → List UInt8
 | [] => []
 | [t] => t
 | t :: u :: r => t ++ 32 :: Lx.joinL (u :: r)
theorem Lx.back : ∀ (ts : List Lx.Tok) (c : Nat) (l : List UInt8), Lx.lexN c l = .good ts → ∃ ts', ts'.map Lx.Tok.core = ts.map Lx.Tok.core ∧ Lx.lexN ts.length (Lx.joinL (ts.map Lx.Tok.text)) = .good ts'
 | [], c, l, h => ⟨[], rfl, Lx.lexN_nil (fun m => rfl) _⟩
 | [a], c, l, h => by
  obtain ⟨q, r, c0, rfl, e, hm, hl, ha, h2⟩ := Lx.lexN_uncons h
  have hf : Lx.Fits r [] := .inr fun y hy => by cases hy
  have := ha.swap hf
  refine ⟨[⟨a.kind, a.text, a.n, (a.text ++ []).length⟩], rfl, ?_⟩
  show Lx.lexN (0 + 1) a.text = _
  rw [Lx.lexN_cons this (by rw [List.append_nil]), Lx.lexN_nil (q := []) (fun m => rfl)]; rfl
 | a :: b :: ts, c, l, h => by
  obtain ⟨q, r, c0, rfl, e, hm, hl, ha, h2⟩ := Lx.lexN_uncons h
  obtain ⟨ts', hc, hr⟩ := Lx.back (b :: ts) c0 r h2
  have hf : Lx.Fits r (32 :: Lx.joinL ((b :: ts).map Lx.Tok.text)) := .inr fun y hy => by
   have : (32 : UInt8) = y := by simpa using hy
   subst this; decide
  have := ha.swap hf
  refine ⟨⟨a.kind, a.text, a.n, (a.text ++ 32 :: Lx.joinL ((b :: ts).map Lx.Tok.text)).length⟩ :: ts', by rw [List.map_cons, List.map_cons, hc]; rfl, ?_⟩
  show Lx.lexN ((b :: ts).length + 1) (a.text ++ 32 :: Lx.joinL ((b :: ts).map Lx.Tok.text)) = _
  rw [Lx.lexN_cons this rfl, Lx.lexN_skip (l' := Lx.joinL ((b :: ts).map Lx.Tok.text)) (Lx.skip_blank (by decide)), hr]; rfl

theorem Lx.cut : ∀ (i c : Nat) (l : List UInt8) (ts : List Lx.Tok), Lx.lexN c l = .good ts → ∀ a, ts[i]? = some a → ∃ p r, l = p ++ r ∧ r.length = a.left ∧ Lx.lexN (ts.length - i) r = .good (ts.drop i) ∧
    ∀ (x : UInt8) (m : List UInt8) (c' : Nat) (us : List Lx.Tok), Lx.blank (x.toNat : Int) = true → Lx.lexN c' m = .good us → ∃ ts', ts'.map Lx.Tok.core = (ts.take i).map Lx.Tok.core ∧ Lx.lexN (i + c') (p ++ x :: m) = .good (ts' ++ us)
  | i, c, l, [], h, a, ha => by cases i <;> cases ha
  | 0, c, l, b :: ts, h, a, hi => by
    cases hi
    obtain ⟨q, r, c0, rfl, e, hm, hl, ha, h2⟩ := Lx.lexN_uncons h
    refine ⟨q, b.text ++ r, e, hl.symm, ?_, fun x m c' us hx hu => ⟨[], rfl, ?_⟩⟩
    · show Lx.lexN (ts.length + 1) _ = _
      rw [Lx.lexN_cons ha rfl, Lx.lexN_mono h2 (Nat.le_refl _)]
      show Lx.Res.good _ = _
      rw [← hl]; rfl
    · rw [Nat.zero_add, Lx.lexN_skip (l' := m) (by rw [hm, Lx.skip_blank hx]), hu]; rfl
  | i + 1, c, l, b :: ts, h, a, hi => by
    obtain ⟨q, r, c0, rfl, e, hm, hl, ha, h2⟩ := Lx.lexN_uncons h
    obtain ⟨p, r1, e1, hr1, h3, hx1⟩ := Lx.cut i c0 r ts h2 a hi
    refine ⟨q ++ (b.text ++ p), r1, by rw [e, e1]; simp, hr1, by rw [List.length_cons, List.drop_succ_cons, show ts.length + 1 - (i + 1) = ts.length - i by omega]; exact h3, fun x m c' us hx hu => ?_⟩
    obtain ⟨ts', hc, hr⟩ := hx1 x m c' us hx hu
    have hf : Lx.Fits r (p ++ x :: m) := by
      cases p with
      | nil => exact .inr fun y hy => by have : x = y := by simpa using hy
                                         subst this; exact hx
      | cons y p => exact .inl (by rw [e1]; rfl)
    refine ⟨⟨b.kind, b.text, b.n, (b.text ++ (p ++ x :: m)).length⟩ :: ts', by rw [List.take_succ_cons, List.map_cons, List.map_cons, hc]; rfl, ?_⟩
    rw [show i + 1 + c' = i + c' + 1 by omega, Lx.lexN_cons (ha.swap hf) (by rw [List.append_assoc, List.append_assoc, hm]), hr]; rfl

theorem Lx.put_lex {i c : Nat} {l : List UInt8} {ts : List Lx.Tok} {a : Lx.Tok} (h : Lx.lexN c l = .good ts) (hi : ts[i]? = some a) {x : UInt8} {p : List UInt8} (hx : Lx.blank (x.toNat : Int) = true) (hp : ∀ m, Lx.skip (p ++ m) = Lx.skip m) :
  a.left ≤ l.length ∧ ∃ us, us.map Lx.Tok.core = ts.map Lx.Tok.core ∧ Lx.lexN ts.length (l.take (l.length - a.left) ++ (x :: p) ++ l.drop (l.length - a.left) ++ (x :: p)) = .good us := by
 obtain ⟨q, r, e, hr, h3, h4⟩ := Lx.cut i c l ts h a hi
 have hlen : l.length = q.length + r.length := by rw [e, List.length_append]
 refine ⟨by omega, ?_⟩
 have hil : i < ts.length := by
  rcases Nat.lt_or_ge i ts.length with h | h
  ·
   exact h
  ·
   rw [List.getElem?_eq_none h] at hi; cases hi
 have e1 : l.take (l.length - a.left) = q := by rw [show l.length - a.left = q.length by omega, e, List.take_left]
 have e2 : l.drop (l.length - a.left) = r := by rw [show l.length - a.left = q.length by omega, e, List.drop_left]
 obtain ⟨us, hc, hu⟩ := Lx.append_lex _ _ r h3 x p 0 [] hx (Lx.lexN_nil hp 0)
 have h5 : Lx.lexN ((ts.drop i).length + 0) (p ++ (r ++ x :: p)) = .good us := by rw [Lx.lexN_skip (hp _), hu, List.append_nil]
 obtain ⟨us', hc', hu'⟩ := h4 x _ _ _ hx h5
 refine ⟨us' ++ us, by rw [List.map_append, hc', hc, ← List.map_append, List.take_append_drop], ?_⟩
 rw [e1, e2, show q ++ x :: p ++ r ++ x :: p = q ++ x :: (p ++ (r ++ x :: p)) by simp, ← hu']
 congr 1
 rw [List.length_drop]; omega
theorem Lx.put0 (m : List UInt8) : Lx.skip ([] ++ m) = Lx.skip m := rfl
theorem Lx.put1 (m : List UInt8) : Lx.skip ([9] ++ m) = Lx.skip m := Lx.skip_blank (by decide)
theorem Lx.put2 (m : List UInt8) : Lx.skip ([40, 42, 32, 97, 32, 40, 42, 32, 98, 32, 42, 41, 32, 39, 32, 42, 41, 32] ++ m) = Lx.skip m := by
 rw [Lx.skip_rem (r := 32 :: m) rfl (by simp [Lx.rem])]
 exact Lx.skip_blank (by decide)
end Go.Proofs.YtjebepnphoeiaabGreatDoor
namespace Go.Proofs.YtjebepnphoeiaabGreatDoor
open Go.RowKit
set_option linter.unusedVariables false

theorem Lx.lex_codes {l : List UInt8} {n : Nat} {c : Int} (h : Lx.lex l = .bad n c) : c ≠ 0 := by
 have key : ∀ (k : Nat) (l : List UInt8), Lx.lexN k l = .bad n c → c ≠ 0 := by
  intro k
  induction k with
  | zero =>
   intro l h
   rw [Lx.lexN_eq] at h
   split at h
   ·
    cases h; decide
   ·
    split at h
    ·
     cases h
    ·
     split at h
     ·
      next e he => cases h; have := Lx.bad_codes he; omega
     ·
      cases h; decide
  | succ k ih =>
   intro l h
   rw [Lx.lexN_eq] at h
   split at h
   ·
    cases h; decide
   ·
    split at h
    ·
     cases h
    ·
     split at h
     ·
      next e he => cases h; have := Lx.bad_codes he; omega
     ·
      next a b _ =>
      simp only at h
      cases hR : Lx.lexN k ((Lx.skip l).1.drop (Lx.text (Lx.skip l).1).length) with
      | bad n2 c2 => rw [hR] at h; cases h; exact ih _ hR
      | good ts => rw [hR] at h; cases h
 unfold Lx.lex at h
 split at h
 ·
  cases h; decide
 ·
  exact key _ _ h
theorem Lx.lex_good {l : List UInt8} {ts : List Lx.Tok} (h : Lx.lex l = .good ts) : l.length ≤ 4096 ∧ ts.length ≤ 1024 ∧ Lx.lexN 1024 l = .good ts := by
 unfold Lx.lex at h
 split at h
 ·
  cases h
 ·
  exact ⟨by omega, Lx.lexN_len h, h⟩
theorem Lx.lex_of {l : List UInt8} {ts : List Lx.Tok} {c : Nat} (hl : l.length ≤ 4096) (h : Lx.lexN c l = .good ts) (ht : ts.length ≤ 1024) : Lx.lex l = .good ts := by
 unfold Lx.lex
 rw [if_neg (by omega)]
 exact Lx.lexN_mono h ht
theorem Lx.core_tv {ts us : List Lx.Tok} (h : us.map Lx.Tok.core = ts.map Lx.Tok.core) (S S' : Nat) : Lv.same (ts.map (Lx.tv S)) (us.map (Lx.tv S')) = true := by
 unfold Lv.same
 rw [decide_eq_true_iff, List.map_map, List.map_map]
 have e : ∀ (S : Nat) (l : List Lx.Tok), l.map (Lv.core ∘ Lx.tv S) = (l.map Lx.Tok.core).map fun x => ((x.1 : Int), (⟨x.2.1.toArray⟩ : ByteArray), (x.2.2 : Int)) := fun S l => by
  rw [List.map_map]; rfl
 rw [e, e, h]
theorem Lx.core_len {ts us : List Lx.Tok} (h : us.map Lx.Tok.core = ts.map Lx.Tok.core) : us.length = ts.length := by
 have := congrArg List.length h
 simpa using this
theorem lxApp (a b : ByteArray) : (a ++ b).data.toList = a.data.toList ++ b.data.toList := by rw [ByteArray.data_append, Array.toList_append]
theorem Lx.pre_list (s : ByteArray) (a : Nat) : (s.extract 0 a).data.toList = s.data.toList.take a := by
 rw [ByteArray.data_extract, Array.toList_extract, List.extract_eq_take_drop, List.drop_zero, Nat.sub_zero]
theorem Lx.size_of {s : ByteArray} {l : List UInt8} (h : s.data.toList = l) : s.size = l.length := by rw [← h, Nm.len]

end Go.Proofs.YtjebepnphoeiaabGreatDoor
namespace Go.Proofs.YtjebepnphoeiaabGreatDoor
set_option linter.unusedVariables false

theorem Lx.mark1 {c : UInt8} {r : List UInt8} (hb : Lx.blank (c.toNat : Int) = false) (ho : Lx.opens (c :: r) = false) (hg : Lx.begin (c :: r) = (6, 1)) : Lx.At [c] r 6 0 := by
 have ht : Lx.text ([c] ++ r) = [c] := by
  show Lx.text (c :: r) = [c]
  unfold Lx.text
  rw [hg]
  have : (r.takeWhile (Lx.goes 6)) = [] := by
   cases r with
   | nil => rfl
   | cons x r => rw [List.takeWhile_cons]; rfl
  simp [this]
 refine ⟨Lx.skip_stop hb ho, ?_, ht, Nat.le_refl _⟩
 show Lx.next (c :: r) = _
 unfold Lx.next
 rw [hg]
 rfl
theorem Lx.mk41 (r : List UInt8) : Lx.At [41] r 6 0 := Lx.mark1 (by decide) (by unfold Lx.opens; cases r <;> rfl) (by rw [Lx.begin_cons, Lx.mark_cons]; rfl)
theorem Lx.mk42 (r : List UInt8) : Lx.At [42] r 6 0 := Lx.mark1 (by decide) (by unfold Lx.opens; cases r <;> rfl) (by rw [Lx.begin_cons, Lx.mark_cons]; rfl)
theorem Lx.mk44 (r : List UInt8) : Lx.At [44] r 6 0 := Lx.mark1 (by decide) (by unfold Lx.opens; cases r <;> rfl) (by rw [Lx.begin_cons, Lx.mark_cons]; rfl)
theorem Lx.mk40 {r : List UInt8} (h : r.head? ≠ some 42) : Lx.At [40] r 6 0 := Lx.mark1 (by decide) (by
 unfold Lx.opens
 cases r with
 | nil => rfl
 | cons x r =>
  have hx : x ≠ 42 := fun e => h (by rw [e]; rfl)
  show ([40, x] == [40, 42]) = false
  simp [hx]) (by rw [Lx.begin_cons, Lx.mark_cons]; rfl)
theorem Lx.lexN_short : ∀ {ts : List Lx.Tok} {k : Nat} {l : List UInt8}, Lx.lexN k l = .good ts → ∀ {c : Nat}, c < ts.length → ∃ n, Lx.lexN c l = .bad n 3
 | [], k, l, h, c, hc => absurd hc (Nat.not_lt_zero _)
 | a :: ts, k, l, h, 0, hc => by
  obtain ⟨q, r, c0, rfl, e, hm, hl, ha, h2⟩ := Lx.lexN_uncons h
  refine ⟨(a.text ++ r).length, ?_⟩
  rw [e, Lx.lexN_skip (hm _), Lx.lexN_eq, ha.stop]
  simp only
  rw [if_neg (by simp), if_neg (by intro e; have h9 := ha.pos; have h8 := congrArg List.length e; rw [List.length_append, List.length_nil] at h8; omega), ha.next]
 | a :: ts, k, l, h, c + 1, hc => by
  obtain ⟨q, r, c0, rfl, e, hm, hl, ha, h2⟩ := Lx.lexN_uncons h
  obtain ⟨n, hn⟩ := Lx.lexN_short h2 (c := c) (by simp at hc; omega)
  exact ⟨n, by rw [Lx.lexN_cons ha (by rw [e, hm]) c, hn]; rfl⟩
theorem Lx.lex_cases {k : Nat} {l : List UInt8} {ts : List Lx.Tok} (h : Lx.lexN k l = .good ts) : (Lx.lex l = .good ts ∧ ts.length ≤ 1024) ∨ ∃ n, Lx.lex l = .bad n 3 := by
 unfold Lx.lex
 split
 ·
  exact .inr ⟨_, rfl⟩
 ·
  by_cases hl : ts.length ≤ 1024
  ·
   exact .inl ⟨Lx.lexN_mono h hl, hl⟩
  ·
   exact .inr (Lx.lexN_short h (by omega))
def Gr.begX (ts : Gr.Ts) : Bool := Gr.isT [102, 110] ts || (Gr.isT [105, 102] ts || Gr.begE ts)
theorem Gr.exp_beg {f : Nat} {ts r : Gr.Ts} {v : Nd} (h : Gr.g f .exp ts = .ok v r) : Gr.begX ts = true := by
 have hno : ∀ f, Gr.begE ts = false → ∀ v r, Gr.g f .app ts ≠ .ok v r := fun f hb v r e => by
  cases f with
  | zero => cases e
  | succ f =>
   rw [show Gr.g (f + 1) .app ts = (if Gr.begE ts = true then (Gr.g f .atom ts).bind fun a r => Gr.g f (.appGo a) r else .bad ts 11) from rfl, hb, if_neg (by simp)] at e
   cases e
 have hbi : ∀ {a : Gr.Res} {k : Nd → Gr.Ts → Gr.Res} {v : Nd} {r : Gr.Ts}, a.bind k = .ok v r → ∃ u q, a = .ok u q := fun {a k v r} e => by
  cases a with
  | ok u q => exact ⟨u, q, rfl⟩
  | bad q c => cases e
  | out => cases e
 unfold Gr.begX
 cases h1 : Gr.isT [102, 110] ts with
 | true => rfl
 | false =>
  cases h2 : Gr.isT [105, 102] ts with
  | true => rfl
  | false =>
   cases h3 : Gr.begE ts with
   | true => rfl
   | false =>
    exfalso
    cases f with
    | zero => cases h
    | succ f =>
     unfold Gr.g at h
     simp only [h1, h2, Bool.false_eq_true, if_false] at h
     cases f with
     | zero => cases h
     | succ f =>
      rw [show Gr.g (f + 1) .cmp ts = (Gr.g f .sum ts).bind _ from rfl] at h
      obtain ⟨u1, q1, e1⟩ := hbi h
      cases f with
      | zero => cases e1
      | succ f =>
       rw [show Gr.g (f + 1) .sum ts = (Gr.g f .prod ts).bind _ from rfl] at e1
       obtain ⟨u2, q2, e2⟩ := hbi e1
       cases f with
       | zero => cases e2
       | succ f =>
        rw [show Gr.g (f + 1) .prod ts = (Gr.g f .app ts).bind _ from rfl] at e2
        obtain ⟨u3, q3, e3⟩ := hbi e2
        exact hno f h3 _ _ e3
theorem Gr.begX_mark {t : Lx.Tok} {r : Gr.Ts} (hk : t.kind = 6) (ht : t.text = [41] ∨ t.text = [42]) : Gr.begX (t :: r) = false := by
 rcases ht with ht | ht <;> simp [Gr.begX, Gr.begE, Gr.isT, Gr.kd, hk, ht]
theorem Gr.begX_41 {ts : Gr.Ts} (h : Gr.begX ts = true) : Gr.isT [41] ts = false := by
 cases ts with
 | nil => rfl
 | cons t r =>
  cases h1 : Gr.isT [41] (t :: r) with
  | false => rfl
  | true =>
   exfalso
   unfold Gr.isT at h1
   rw [Bool.and_eq_true, Bool.or_eq_true, decide_eq_true_iff, decide_eq_true_iff, decide_eq_true_iff] at h1
   obtain ⟨hk, ht⟩ := h1
   have : Gr.begX (t :: r) = false := by
    rcases hk with hk | hk <;> simp [Gr.begX, Gr.begE, Gr.isT, Gr.kd, hk, ht]
   rw [this] at h; cases h
theorem Gr.atom_paren {f n : Nat} {us r : Gr.Ts} {nd : Nd} (h : Gr.g (f + 1) .restExp us = .ok nd r) : Gr.g (f + 2) .atom (⟨6, [40], 0, n⟩ :: us) = .ok nd r := by
 rw [show Gr.g (f + 2) .atom (⟨6, [40], 0, n⟩ :: us) = Gr.g (f + 1) .restExp us from rfl]
 exact h
theorem Gr.exp_atom {f n : Nat} {us : Gr.Ts} {nd : Nd} (h : Gr.g (f + 2) .atom (⟨6, [40], 0, n⟩ :: us) = .ok nd []) : Gr.g (f + 7) .exp (⟨6, [40], 0, n⟩ :: us) = .ok nd [] := by
 have h1 : Gr.g (f + 3) .app (⟨6, [40], 0, n⟩ :: us) = .ok nd [] := by
  rw [show Gr.g (f + 3) .app (⟨6, [40], 0, n⟩ :: us) = (Gr.g (f + 2) .atom (⟨6, [40], 0, n⟩ :: us)).bind fun a r => Gr.g (f + 2) (.appGo a) r from rfl, h]
  rfl
 have h2 : Gr.g (f + 4) .prod (⟨6, [40], 0, n⟩ :: us) = .ok nd [] := by
  rw [show Gr.g (f + 4) .prod (⟨6, [40], 0, n⟩ :: us) = (Gr.g (f + 3) .app (⟨6, [40], 0, n⟩ :: us)).bind fun a r => Gr.g (f + 3) (.prodGo a) r from rfl, h1]
  rfl
 have h3 : Gr.g (f + 5) .sum (⟨6, [40], 0, n⟩ :: us) = .ok nd [] := by
  rw [show Gr.g (f + 5) .sum (⟨6, [40], 0, n⟩ :: us) = (Gr.g (f + 4) .prod (⟨6, [40], 0, n⟩ :: us)).bind fun a r => Gr.g (f + 4) (.sumGo a) r from rfl, h2]
  rfl
 have h4 : Gr.g (f + 6) .cmp (⟨6, [40], 0, n⟩ :: us) = .ok nd [] := by
  rw [show Gr.g (f + 6) .cmp (⟨6, [40], 0, n⟩ :: us) = (Gr.g (f + 5) .sum (⟨6, [40], 0, n⟩ :: us)).bind _ from rfl, h3]
  rfl
 rw [show Gr.g (f + 7) .exp (⟨6, [40], 0, n⟩ :: us) = Gr.g (f + 6) .cmp (⟨6, [40], 0, n⟩ :: us) from rfl]
 exact h4
theorem Gr.paren {f n m : Nat} {us : Gr.Ts} {nd : Nd} (h : Gr.g f .exp us = .ok nd [⟨6, [41], 0, m⟩]) : Gr.g (f + 7) .exp (⟨6, [40], 0, n⟩ :: us) = .ok nd [] := by
 refine Gr.exp_atom (Gr.atom_paren ?_)
 have h41 := Gr.begX_41 (Gr.exp_beg h)
 unfold Gr.g
 simp only [h41, Bool.false_eq_true, if_false]
 rw [h]
 rfl
theorem Gr.enough_of {k : Nat} {ts : Gr.Ts} {R : Gr.Res} (hl : ts.length ≤ 1024) (h : Gr.g (Gr.enough + k) .exp ts = R) : Gr.g Gr.enough .exp ts = R := by
 have hf := Gr.fine Gr.enough .exp ts (by unfold Gr.enough; simp only [Gr.Nt.rank]; omega)
 rw [← h]
 refine (Gr.more (fun e => ?_) (Nat.le_add_right _ _)).symm
 rw [e] at hf
 exact hf.elim
theorem Gr.Rl.ok {a b : Gr.Res} {v : Nd} {r : Gr.Ts} (h : Gr.Rl a b) (ha : a = .ok v r) : ∃ q, b = .ok v q ∧ Gr.Like r q := by
 subst ha
 cases b with
 | ok u q => obtain ⟨e, hr⟩ := h; exact ⟨q, by rw [e], hr⟩
 | bad q c => exact h.elim
 | out => exact h.elim
theorem Gr.like_nil {q : Gr.Ts} (h : Gr.Like [] q) : q = [] := by
 have := h.len
 exact List.eq_nil_of_length_eq_zero this.symm
theorem Gr.ahead {ts us z : Gr.Ts} {nd : Nd} (hz : Gr.Stop z) (hc : us.map Lx.Tok.core = ts.map Lx.Tok.core) (h : Gr.g Gr.enough .exp ts = .ok nd []) : Gr.g Gr.enough .exp (us ++ z) = .ok nd z := by
 obtain ⟨q, hq, hr⟩ := Gr.Rl.ok (Gr.like Gr.enough .exp ts us hc.symm) h
 obtain rfl := Gr.like_nil hr
 exact Gr.ext hz Gr.enough .exp us nd [] hq
end Go.Proofs.YtjebepnphoeiaabGreatDoor
namespace Go.Proofs.YtjebepnphoeiaabGreatDoor
open Go.RowKit
set_option linter.unusedVariables false

theorem Gr.whole_node {nt : Gr.Nt} {right : Nd → Int} {l : List UInt8} {nd : Nd} (h : Gr.whole nt right l = .node nd) : ∃ ts, Lx.lex l = .good ts ∧ Gr.g Gr.enough nt ts = .ok nd [] ∧ right nd = 0 := by
 unfold Gr.whole at h
 cases hl : Lx.lex l with
 | bad n c => rw [hl] at h; cases h
 | good ts =>
  rw [hl] at h
  simp only at h
  cases hg : Gr.g Gr.enough nt ts with
  | out => rw [hg] at h; cases h
  | bad r c => rw [hg] at h; cases h
  | ok v r =>
   rw [hg] at h
   cases r with
   | cons t r => cases h
   | nil =>
    simp only at h
    split at h
    ·
     next h0 => cases h; exact ⟨ts, rfl, hg, h0⟩
    ·
     cases h
theorem Gr.whole_codes {nt : Gr.Nt} (hnt : nt.rank ≤ 50) {right : Nd → Int} {l : List UInt8} {p c : Int} (h : Gr.whole nt right l = .err p c) : c ≠ 0 := by
 unfold Gr.whole at h
 cases hl : Lx.lex l with
 | bad n c2 => rw [hl] at h; cases h; exact Gr.lex_codes hl
 | good ts =>
  rw [hl] at h
  simp only at h
  have hlen := (Gr.lex_ok hl).2.1
  have hfin := Gr.fine Gr.enough nt ts (by unfold Gr.enough; omega)
  cases hg : Gr.g Gr.enough nt ts with
  | out => rw [hg] at hfin; exact hfin.elim
  | bad r c2 => rw [hg] at h; cases h; exact Gr.bad_ne hg
  | ok v r =>
   rw [hg] at h
   cases r with
   | cons t r => cases h; decide
   | nil =>
    simp only at h
    split at h
    ·
     cases h
    ·
     next h0 => cases h; exact h0
theorem Gr.stop41 (n : Nat) : Gr.Stop [⟨6, [41], 0, n⟩] := ⟨rfl, fun x h => by
 unfold Gr.isT at h
 rw [Bool.and_eq_true, decide_eq_true_iff] at h
 exact .inl h.2.symm⟩
theorem Gr.no_star {l : List UInt8} {ts : List Lx.Tok} {nd : Nd} (hl : Lx.lex l = .good ts) (hg : Gr.g Gr.enough .exp ts = .ok nd []) (m : List UInt8) (x : UInt8) (hx : x ≠ 42) : (l ++ x :: m).head? ≠ some 42 := by
 cases l with
 | nil => intro e; exact hx (by simpa using e)
 | cons c l =>
  intro e
  obtain rfl : c = 42 := by simpa using e
  obtain ⟨-, -, hN⟩ := Lx.lex_good hl
  have h1 := Lx.lexN_cons (l := 42 :: l) (Lx.mk42 l) rfl 1023
  rw [hN] at h1
  cases h2 : Lx.lexN 1023 l with
  | bad n c2 => rw [h2] at h1; cases h1
  | good us =>
   rw [h2] at h1
   cases h1
   have := Gr.exp_beg hg
   rw [Gr.begX_mark rfl (.inr rfl)] at this
   cases this
theorem Gr.lex_behind {l : List UInt8} {ts : List Lx.Tok} (hl : Lx.lex l = .good ts) : ∃ us, us.map Lx.Tok.core = ts.map Lx.Tok.core ∧ Lx.lexN (ts.length + 1) (l ++ [10, 41]) = .good (us ++ [⟨6, [41], 0, 1⟩]) := by
 obtain ⟨-, -, hN⟩ := Lx.lex_good hl
 have h1 : Lx.lexN 1 [41] = .good [⟨6, [41], 0, 1⟩] := by
  have h2 := Lx.lexN_cons (l := [41]) (Lx.mk41 []) rfl 0
  rw [Lx.lexN_nil (q := []) (fun m => rfl) 0] at h2
  exact h2
 exact Lx.append_lex ts 1024 l hN 10 [41] 1 _ (by decide) h1
end Go.Proofs.YtjebepnphoeiaabGreatDoor
