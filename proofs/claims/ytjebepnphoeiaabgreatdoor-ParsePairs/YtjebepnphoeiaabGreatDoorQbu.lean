/- Pieces: GrCz GrTk GrRd GrY GrDn GrNz. -/
import Derived.Test.YtjebepnphoeiaabGreatDoorQbi
import Derived.Test.YtjebepnphoeiaabGreatDoorQbj
import Derived.Test.YtjebepnphoeiaabGreatDoorQbk
import Derived.Test.YtjebepnphoeiaabGreatDoorQbn
import Derived.Test.YtjebepnphoeiaabGreatDoorQbo
import Derived.Test.YtjebepnphoeiaabGreatDoorQbp
import Derived.Test.YtjebepnphoeiaabGreatDoorQbq
import Derived.Test.YtjebepnphoeiaabGreatDoorQbr
import Derived.Test.YtjebepnphoeiaabGreatDoorQbs
import Derived.Test.YtjebepnphoeiaabGreatDoorQbt
import Derived.Test.YtjebepnphoeiaabGreatDoorQai
import Derived.Test.YtjebepnphoeiaabGreatDoorQad
import Derived.Test.YtjebepnphoeiaabGreatDoorQag
import Derived.Test.YtjebepnphoeiaabGreatDoorQau
import Derived.Test.YtjebepnphoeiaabGreatDoorQaj
namespace Go.Proofs.YtjebepnphoeiaabGreatDoor
open Go.RowKit
set_option linter.unusedVariables false

structure Gr.Exps (k : Nat) : Prop where
 exp : Gr.Rule 8 .exp 2 k
 cmp : Gr.Rule 18 .cmp 2 k
 sum : Gr.Rule 38 .sum 2 k
 prod : Gr.Rule 67 .prod 2 k
 app : Gr.Rule 100 .app 2 k
 atom : Gr.Rule2 118 .atom 2 Gr.begE k
 rest : Gr.Rule 126 .restExp 2 k
 lets : Gr.Rule 127 (.letGo []) 2 k
 case : Gr.Rule 128 .case 2 k
 dec : Gr.Rule 135 .dec 3 k
theorem gr_exps : ∀ (f k : Nat), k ≤ f → Gr.Exps k
 | 0, k, hk => by
  obtain rfl : k = 0 := by omega
  exact ⟨Gr.Rule.zero _ _ _, Gr.Rule.zero _ _ _, Gr.Rule.zero _ _ _, Gr.Rule.zero _ _ _, Gr.Rule.zero _ _ _, Gr.Rule2.zero _ _ _ _, Gr.Rule.zero _ _ _, Gr.Rule.zero _ _ _, Gr.Rule.zero _ _ _, Gr.Rule.zero _ _ _⟩
 | f + 1, k, hk => by
  have ih := gr_exps f
  by_cases he : k = f + 1
  ·
   subst he
   have h := ih f (Nat.le_refl _)
   exact ⟨gr_exp f (gr_pats f).1 h.exp h.cmp, gr_compared f h.sum, gr_sum f (fun j hj => (ih j hj).prod), gr_product f (fun j hj => (ih j hj).app), gr_application f (fun j hj => (ih j hj).atom) gr_atom0, gr_atom f h.rest h.lets h.case,
    gr_restExp f h.exp (gr_types f f (Nat.le_refl _)).1, gr_restLet (f + 1) (fun j hj => (ih j (by omega)).dec) (fun j hj => (ih j (by omega)).exp), gr_restCase f (fun j hj => (gr_pats j).1) (fun j hj => (ih j hj).exp), gr_dec f (gr_types f f (Nat.le_refl _)).1 h.exp⟩
  ·
   exact ih k (by omega)
def Gr.enough : Nat := 10 * 1024 + 100
theorem Gr.lexN_ok : ∀ {ts : List Lx.Tok} {c : Nat} {l : List UInt8}, Lx.lexN c l = .good ts → l.length ≤ 4096 → ∀ t, t ∈ ts → Gr.TokOk l.length t
 | [], c, l, h, hl => fun t ht => by cases ht
 | a :: ts, c, l, h, hl => by
  obtain ⟨q, r, c0, rfl, e, -, hleft, ha, h2⟩ := Lx.lexN_uncons h
  have hlen : l.length = q.length + (a.text.length + r.length) := by rw [e, List.length_append, List.length_append]
  have hk := Lx.next_kind ha.next
  rw [List.length_append] at hleft
  intro t ht
  rcases List.mem_cons.1 ht with rfl | ht
  ·
   exact ⟨hk.2.1, hk.2.2.1, by omega, fun _ => ha.pos, hk.2.2.2.2, by omega⟩
  ·
   have h3 := Gr.lexN_ok h2 (by omega) t ht
   exact ⟨h3.k1, h3.k6, h3.len, h3.tyv, h3.num, by have := h3.left; omega⟩
theorem Gr.lex_ok {l : List UInt8} {ts : List Lx.Tok} (h : Lx.lex l = .good ts) : (∀ t, t ∈ ts → Gr.TokOk l.length t) ∧ ts.length ≤ 1024 ∧ l.length ≤ 4096 := by
 unfold Lx.lex at h
 split at h
 ·
  cases h
 ·
  exact ⟨Gr.lexN_ok h (by omega), Lx.lexN_len h, by omega⟩
theorem Tk.own {w : World} {base S : Nat} {v : Value} {ts : Gr.Ts} (h : w.ownsRow base 77 4 v ts.length (ts.flatMap (Lx.cells S))) (o : Obj) : Tk (w.alloc o) w.heap.size S v ts := by
 rcases (Toks.of_own h) with ⟨hv, ht⟩ | ⟨g, c, hv, hle, hg, hc⟩
 ·
  exact .inr ⟨ht, _, _, hv⟩
 ·
  refine .inl ⟨g, 0, c, hv, hg, hle, fun j u hu => ?_⟩
  rw [Nat.zero_add]
  exact ((bl_alloc (Below.refl _ _) o).cell hg).trans (hc j u hu)
theorem Rd.start {w : World} {base : Nat} {s : ByteArray} {v : Value} {ts : Gr.Ts} (hl : Lx.lex s.data.toList = .good ts) (h : w.ownsRow base 77 4 v ts.length (ts.flatMap (Lx.cells s.size))) :
  Rd (w.alloc (.cells #[v, .int .i64 (s.size : Int), .int .i64 0, .int .i64 0] 74)) w.heap.size s.size ts := by
 obtain ⟨h1, h2, h3⟩ := Gr.lex_ok hl
 have e : s.data.toList.length = s.size := Array.length_toList
 rw [e] at h1 h3
 refine ⟨by simp, ⟨v, ?_, Tk.own h _⟩, ?_, ?_, ?_, ?_, ?_, ?_, h1, h2, h3⟩
 all_goals simp [go_sem]

set_option maxHeartbeats 1000000 in
set_option maxRecDepth 100000 in
theorem gr_read_good (s : ByteArray) (hs : s.size ≤ maxLen) (w : World) (h : Er w) {ts : Gr.Ts} (hl : Lx.lex s.data.toList = .good ts) :
  Calls Tryz.prog 12 #[.string s] w fun e w' => (∃ B, e = .returned (.tuple #[.pointer (some ⟨B, 0, none⟩), .int .i64 0, .int .i64 0]) ∧ w.heap.size ≤ B ∧ Rd w' B s.size ts) ∧ Below w.heap.size w w' := by
 have q : Hid (Calls Tryz.prog 29 #[.string s] w fun e w' => (∃ v, e = .returned (.tuple #[v, .int .i64 0, .int .i64 0]) ∧ w'.ownsRow w.heap.size 77 4 v ts.length (ts.flatMap (Lx.cells s.size))) ∧ Below w.heap.size w w') := lxLex_good s hs w h hl
 have HL : Hid (Lx.lex s.data.toList = .good ts) := hl
 clear h hl
 unfold maxLen at hs
 go_enter Tryz.func12, Tryz.ntmps12
 go_wp2_with (go_at_call 29; refine q.out.mono ?_; rintro e w1 ⟨⟨v, rfl, hown⟩, hb⟩; have HO : Hid (w1.ownsRow w.heap.size 77 4 v ts.length (ts.flatMap (Lx.cells s.size))) := hown; obtain ⟨va, vc, hvf⟩ := own_shape hown; subst hvf; clear hown)
 go_ret3
 exact ⟨⟨_, rfl, hb.size, Rd.start HL.out HO.out⟩, bl_alloc hb _⟩

set_option maxHeartbeats 1000000 in
set_option maxRecDepth 100000 in
theorem gr_read_bad (s : ByteArray) (hs : s.size ≤ maxLen) (w : World) (h : Er w) {n : Nat} {c : Int} (hl : Lx.lex s.data.toList = .bad n c) (hc : c ≠ 0) :
  Calls Tryz.prog 12 #[.string s] w fun e w' => e = .returned (.tuple #[.pointer none, .int .i64 ((s.size - n : Nat) : Int), .int .i64 c]) ∧ Below w.heap.size w w' := by
 have q : Hid (Calls Tryz.prog 29 #[.string s] w fun e w' => e = .returned (.tuple #[.slice none 0 0, .int .i64 ((s.size - n : Nat) : Int), .int .i64 c]) ∧ Below w.heap.size w w') := lxLex_bad s hs w h hl
 have hcb : (c == 0) = false := by simpa using hc
 clear h hl
 generalize ((s.size - n : Nat) : Int) = p at *
 go_enter Tryz.func12, Tryz.ntmps12
 go_wp2_with (go_at_call 29; refine q.out.mono ?_; rintro e w1 ⟨rfl, hb⟩)
 go_ret3
 exact ⟨rfl, hb⟩
set_option linter.unusedSimpArgs false
set_option maxHeartbeats 1000000 in
set_option maxRecDepth 100000 in
theorem faceTy_ok (w : World) (B S : Nat) (ts r : Gr.Ts) (nd : Nd) (h : Rd w B S ts) (q : ∀ W, Rd W B S ts → Calls Tryz.prog 23 #[.pointer (some ⟨B, 0, none⟩)] W (Gr.Ans B S 0 W (.ok nd r))) :
  Calls Tryz.prog 55 #[.pointer (some ⟨B, 0, none⟩), .func (.func 23) #[] #[]] w (Gr.Ans B S 0 w (.ok nd r)) := by
 have hmf := mf_any
 have hlt := h.lt
 have HR : Hid (Rd w B S ts) := h
 have Q : Hid (∀ W, Rd W B S ts → Calls Tryz.prog 23 #[.pointer (some ⟨B, 0, none⟩)] W (Gr.Ans B S 0 W (.ok nd r))) := q
 clear h q
 go_enter_defers Tryz.func55, Tryz.ntmps55
 go_wp2_with (first | (go_at_call 30; refine Calls.mono (gr_goes _ B S ts ?rd) ?_; (case rd => exact (HR.out.alloc _).alloc _); rintro e ww ⟨rfl, hww⟩; rw [hww]; clear hww ww) | (go_at_call 23; refine Calls.mono (Q.out _ ?rd) ?_; (case rd => exact (HR.out.alloc _).alloc _); rintro e w1 ⟨⟨vs, n, rfl, ha0⟩, hRR, hBB⟩; obtain ⟨xi, xs, xa, xn, xc, xd, xm, xe, rfl⟩ := ha0.ty_form; have ha : Hid (At w1 (Ge (w.heap.size + 2)) n 0 [.int .i64 xi, .string xs, .slice xa xn xc, .slice xd xm xe] nd) := At.move (Keeps.refl _ _) (Ge.le (by simp)) _ _ _ _ ha0; have hR1 : Hid (Rd w1 B S r) := hRR; have hB1 : Hid (Bes B w w1) := (((Bes.refl _ _).alloc _).alloc _).trans hBB; have hbb : Bx w1 (w.heap.size + 1) [.int .i64 0, .string ⟨#[]⟩, .slice none 0 0, .slice none 0 0] := (by have hq := (Bx.new (w.alloc (.cells #[.pointer (some ⟨B, 0, none⟩)] 38)) [.int .i64 0, .string ⟨#[]⟩, .slice none 0 0, .slice none 0 0] 41).bes hBB (by simp; omega); simpa using hq); obtain ⟨⟨k0, k1, k2, k3⟩, z0, z1, z2, z3⟩ := hbb.e4; have k0b : w1.cell? ⟨w.heap.size, 0, none⟩ = some (.pointer (some ⟨B, 0, none⟩)) := (hBB.cell (by simp; omega) (by simp; omega)).trans (by simp [go_sem]); clear hRR hBB ha0))
 refine leaves_cons (f := 88) (args := #[.pointer (some ⟨w.heap.size, 0, none⟩)]) (by simp) (by simp [go_sem]) ?_
 refine (fcTy_idle w.heap.size _).mono ?_
 rintro e u' w'' ⟨rfl, rfl, rfl⟩
 simp [Leaves, settle, results, Tryz.results55, go_sem, k0, k1, k2, k3]
 exact ⟨⟨[.int .i64 xi, .string xs, .slice xa xn xc, .slice xd xm xe], n, rfl, At.move (Keeps.save (b := w.heap.size + 1) (by simp only [sv]) (by omega)) (Ge.le (by omega)) _ _ _ _ ha.out⟩, Rd.save (b := w.heap.size + 1) hR1.out (by simp only [sv]) (by omega), Bes.save (b := w.heap.size + 1) hB1.out (by simp only [sv]) (by omega)⟩

set_option maxHeartbeats 1000000 in
set_option maxRecDepth 100000 in
theorem faceTy_bad (w : World) (B S : Nat) (ts r : Gr.Ts) (c : Int) (hc : c ≠ 0) (h : Rd w B S ts) (q : ∀ W, Rd W B S ts → Calls Tryz.prog 23 #[.pointer (some ⟨B, 0, none⟩)] W (Gr.Ans B S 0 W (.bad r c))) :
  Calls Tryz.prog 55 #[.pointer (some ⟨B, 0, none⟩), .func (.func 23) #[] #[]] w fun e w' => e = .returned (.agg #[.int .i64 0, .string ⟨#[]⟩, .slice none 0 0, .slice none 0 0]) ∧ Rf w' B S (Gr.place S r) c ∧ Bes B w w' := by
 have hmf := mf_any
 have hlt := h.lt
 have HR : Hid (Rd w B S ts) := h
 have Q : Hid (∀ W, Rd W B S ts → Calls Tryz.prog 23 #[.pointer (some ⟨B, 0, none⟩)] W (Gr.Ans B S 0 W (.bad r c))) := q
 clear h q
 go_enter_defers Tryz.func55, Tryz.ntmps55
 go_wp2_with (first | (go_at_call 30; refine Calls.mono (gr_goes _ B S ts ?rd) ?_; (case rd => exact (HR.out.alloc _).alloc _); rintro e ww ⟨rfl, hww⟩; rw [hww]; clear hww ww) | (go_at_call 23; refine Calls.mono (Q.out _ ?rd) ?_; (case rd => exact (HR.out.alloc _).alloc _); rintro e w1 ⟨rfl, ⟨ts', hRR⟩, hBB⟩; have hR1 : Hid (Rd w1 B S ts') := hRR; have hB1 : Hid (Bes B w w1) := (((Bes.refl _ _).alloc _).alloc _).trans hBB; have hbb : Hid (Bx w1 (w.heap.size + 1) [.int .i64 0, .string ⟨#[]⟩, .slice none 0 0, .slice none 0 0]) := (by show Bx _ _ _; have hq := (Bx.new (w.alloc (.cells #[.pointer (some ⟨B, 0, none⟩)] 38)) [.int .i64 0, .string ⟨#[]⟩, .slice none 0 0, .slice none 0 0] 41).bes hBB (by simp; omega); simpa using hq); have k0b : w1.cell? ⟨w.heap.size, 0, none⟩ = some (.pointer (some ⟨B, 0, none⟩)) := (hBB.cell (by simp; omega) (by simp; omega)).trans (by simp [go_sem]); clear hRR hBB; simp only [Gr.pe]))
 refine leaves_cons (f := 88) (args := #[.pointer (some ⟨w.heap.size, 0, none⟩)]) (by simp) (by simp [go_sem]) ?_
 refine (fcTy_panicking w.heap.size B S ts' _ c hc [] _ hR1.out k0b).mono ?_
 rintro e u' w'' ⟨rfl, rfl, hF, hB2⟩
 obtain ⟨⟨k0, k1, k2, k3⟩, z0, z1, z2, z3⟩ := (hbb.out.bes hB2 (by omega)).e4
 have hB3 : Hid (Bes B w w'') := hB1.out.trans hB2
 have HF : Hid (Rf w'' B S (Gr.place S r) c) := hF
 clear hB2 hF
 simp [Leaves, settle, results, Tryz.results55, go_sem, k0, k1, k2, k3]
 exact ⟨HF.out, hB3.out⟩





set_option maxHeartbeats 1000000 in
set_option maxRecDepth 100000 in
theorem faceExp_ok (w : World) (B S : Nat) (ts r : Gr.Ts) (nd : Nd) (h : Rd w B S ts) (q : ∀ W, Rd W B S ts → Calls Tryz.prog 8 #[.pointer (some ⟨B, 0, none⟩)] W (Gr.Ans B S 2 W (.ok nd r))) :
  Calls Tryz.prog 13 #[.pointer (some ⟨B, 0, none⟩), .func (.func 8) #[] #[]] w (Gr.Ans B S 2 w (.ok nd r)) := by
 have hmf := mf_any
 have hlt := h.lt
 have HR : Hid (Rd w B S ts) := h
 have Q : Hid (∀ W, Rd W B S ts → Calls Tryz.prog 8 #[.pointer (some ⟨B, 0, none⟩)] W (Gr.Ans B S 2 W (.ok nd r))) := q
 clear h q
 go_enter_defers Tryz.func13, Tryz.ntmps13
 go_wp2_with (first | (go_at_call 30; refine Calls.mono (gr_goes _ B S ts ?rd) ?_; (case rd => exact (HR.out.alloc _).alloc _); rintro e ww ⟨rfl, hww⟩; rw [hww]; clear hww ww) | (go_at_call 8; refine Calls.mono (Q.out _ ?rd) ?_; (case rd => exact (HR.out.alloc _).alloc _); rintro e w1 ⟨⟨vs, n, rfl, ha0⟩, hRR, hBB⟩; obtain ⟨xi, xj, xk, xa, xn, xc, xd0, xm0, xe0, xd1, xm1, xe1, xd2, xm2, xe2, xd3, xm3, xe3, rfl⟩ := ha0.exp_form; have ha : Hid (At w1 (Ge (w.heap.size + 2)) n 2 [.int .i64 xi, .int .i64 xj, .int .i64 xk, .slice xa xn xc, .slice xd0 xm0 xe0, .slice xd1 xm1 xe1, .slice xd2 xm2 xe2, .slice xd3 xm3 xe3] nd) := At.move (Keeps.refl _ _) (Ge.le (by simp)) _ _ _ _ ha0; have hR1 : Hid (Rd w1 B S r) := hRR; have hB1 : Hid (Bes B w w1) := (((Bes.refl _ _).alloc _).alloc _).trans hBB; have hbb : Bx w1 (w.heap.size + 1) [.int .i64 0, .int .i64 0, .int .i64 0, .slice none 0 0, .slice none 0 0, .slice none 0 0, .slice none 0 0, .slice none 0 0] := (by have hq := (Bx.new (w.alloc (.cells #[.pointer (some ⟨B, 0, none⟩)] 38)) [.int .i64 0, .int .i64 0, .int .i64 0, .slice none 0 0, .slice none 0 0, .slice none 0 0, .slice none 0 0, .slice none 0 0] 28).bes hBB (by simp; omega); simpa using hq); obtain ⟨⟨k0, k1, k2, k3, k4, k5, k6, k7⟩, z0, z1, z2, z3, z4, z5, z6, z7⟩ := hbb.e8; have k0b : w1.cell? ⟨w.heap.size, 0, none⟩ = some (.pointer (some ⟨B, 0, none⟩)) := (hBB.cell (by simp; omega) (by simp; omega)).trans (by simp [go_sem]); clear hRR hBB ha0))
 refine leaves_cons (f := 31) (args := #[.pointer (some ⟨w.heap.size, 0, none⟩)]) (by simp) (by simp [go_sem]) ?_
 refine (fcExp_idle w.heap.size _).mono ?_
 rintro e u' w'' ⟨rfl, rfl, rfl⟩
 simp [Leaves, settle, results, Tryz.results13, go_sem, k0, k1, k2, k3, k4, k5, k6, k7]
 exact ⟨⟨[.int .i64 xi, .int .i64 xj, .int .i64 xk, .slice xa xn xc, .slice xd0 xm0 xe0, .slice xd1 xm1 xe1, .slice xd2 xm2 xe2, .slice xd3 xm3 xe3], n, rfl, At.move (Keeps.save (b := w.heap.size + 1) (by simp only [sv]) (by omega)) (Ge.le (by omega)) _ _ _ _ ha.out⟩, Rd.save (b := w.heap.size + 1) hR1.out (by simp only [sv]) (by omega), Bes.save (b := w.heap.size + 1) hB1.out (by simp only [sv]) (by omega)⟩

set_option maxHeartbeats 1000000 in
set_option maxRecDepth 100000 in
theorem faceExp_bad (w : World) (B S : Nat) (ts r : Gr.Ts) (c : Int) (hc : c ≠ 0) (h : Rd w B S ts) (q : ∀ W, Rd W B S ts → Calls Tryz.prog 8 #[.pointer (some ⟨B, 0, none⟩)] W (Gr.Ans B S 2 W (.bad r c))) :
  Calls Tryz.prog 13 #[.pointer (some ⟨B, 0, none⟩), .func (.func 8) #[] #[]] w fun e w' => e = .returned (.agg #[.int .i64 0, .int .i64 0, .int .i64 0, .slice none 0 0, .slice none 0 0, .slice none 0 0, .slice none 0 0, .slice none 0 0]) ∧ Rf w' B S (Gr.place S r) c ∧ Bes B w w' := by
 have hmf := mf_any
 have hlt := h.lt
 have HR : Hid (Rd w B S ts) := h
 have Q : Hid (∀ W, Rd W B S ts → Calls Tryz.prog 8 #[.pointer (some ⟨B, 0, none⟩)] W (Gr.Ans B S 2 W (.bad r c))) := q
 clear h q
 go_enter_defers Tryz.func13, Tryz.ntmps13
 go_wp2_with (first | (go_at_call 30; refine Calls.mono (gr_goes _ B S ts ?rd) ?_; (case rd => exact (HR.out.alloc _).alloc _); rintro e ww ⟨rfl, hww⟩; rw [hww]; clear hww ww) | (go_at_call 8; refine Calls.mono (Q.out _ ?rd) ?_; (case rd => exact (HR.out.alloc _).alloc _); rintro e w1 ⟨rfl, ⟨ts', hRR⟩, hBB⟩; have hR1 : Hid (Rd w1 B S ts') := hRR; have hB1 : Hid (Bes B w w1) := (((Bes.refl _ _).alloc _).alloc _).trans hBB; have hbb : Hid (Bx w1 (w.heap.size + 1) [.int .i64 0, .int .i64 0, .int .i64 0, .slice none 0 0, .slice none 0 0, .slice none 0 0, .slice none 0 0, .slice none 0 0]) := (by show Bx _ _ _; have hq := (Bx.new (w.alloc (.cells #[.pointer (some ⟨B, 0, none⟩)] 38)) [.int .i64 0, .int .i64 0, .int .i64 0, .slice none 0 0, .slice none 0 0, .slice none 0 0, .slice none 0 0, .slice none 0 0] 28).bes hBB (by simp; omega); simpa using hq); have k0b : w1.cell? ⟨w.heap.size, 0, none⟩ = some (.pointer (some ⟨B, 0, none⟩)) := (hBB.cell (by simp; omega) (by simp; omega)).trans (by simp [go_sem]); clear hRR hBB; simp only [Gr.pe]))
 refine leaves_cons (f := 31) (args := #[.pointer (some ⟨w.heap.size, 0, none⟩)]) (by simp) (by simp [go_sem]) ?_
 refine (fcExp_panicking w.heap.size B S ts' _ c hc [] _ hR1.out k0b).mono ?_
 rintro e u' w'' ⟨rfl, rfl, hF, hB2⟩
 obtain ⟨⟨k0, k1, k2, k3, k4, k5, k6, k7⟩, z0, z1, z2, z3, z4, z5, z6, z7⟩ := (hbb.out.bes hB2 (by omega)).e8
 have hB3 : Hid (Bes B w w'') := hB1.out.trans hB2
 have HF : Hid (Rf w'' B S (Gr.place S r) c) := hF
 clear hB2 hF
 simp [Leaves, settle, results, Tryz.results13, go_sem, k0, k1, k2, k3, k4, k5, k6, k7]
 exact ⟨HF.out, hB3.out⟩
set_option linter.unusedSimpArgs false
set_option maxHeartbeats 800000 in
set_option maxRecDepth 100000 in
theorem gr_goes_failed (w : World) (B S : Nat) (p c : Int) (h : Rf w B S p c) :
  Calls Tryz.prog 30 #[.pointer (some ⟨B, 0, none⟩)] w fun e w' => e = .returned (.bool false) ∧ w' = w := by
 have hk := h.k
 have hne : (c == 0) = false := by rw [beq_eq_false_iff_ne]; exact h.ne
 clear h
 go_enter Tryz.func30, Tryz.ntmps30
 go_wp2
 go_ret
 exact ⟨rfl, rfl⟩

set_option maxHeartbeats 800000 in
set_option maxRecDepth 100000 in
theorem gr_next_failed (w : World) (B S : Nat) (p c : Int) (h : Rf w B S p c) :
  Calls Tryz.prog 32 #[.pointer (some ⟨B, 0, none⟩)] w fun e w' => e = .returned (.tuple #[.agg #[.int .i64 0, .string ⟨#[]⟩, .int .i64 0, .int .i64 0], .bool false]) ∧ Below w.heap.size w w' := by
 have q : Hid (∀ ob, Calls Tryz.prog 30 #[.pointer (some ⟨B, 0, none⟩)] (w.alloc ob) fun e w' => e = .returned (.bool false) ∧ w' = w.alloc ob) := fun ob => gr_goes_failed _ B S p c (h.alloc ob)
 clear h
 go_enter Tryz.func32, Tryz.ntmps32
 go_wp2_with (go_at_call 30; refine (q.out _).mono ?_; rintro e w1 ⟨rfl, hw1⟩; rw [hw1]; clear hw1 w1)
 refine bodyPost_ret (v := .tuple #[.agg #[.int .i64 0, .string ⟨#[]⟩, .int .i64 0, .int .i64 0], .bool false]) (by rw [results_cell_tmp rfl]; simp [go_sem]) rfl ⟨rfl, ?_⟩
 exact bl_alloc (Below.refl _ _) _

set_option maxHeartbeats 800000 in
set_option maxRecDepth 100000 in
theorem gr_done (w : World) (B S : Nat) (ts : Gr.Ts) (h : Rd w B S ts) :
  Calls Tryz.prog 14 #[.pointer (some ⟨B, 0, none⟩)] w fun e w' => e = .returned (.tuple #[.int .i64 (Gr.at0 S ts), .int .i64 (if ts = [] then 0 else 11)]) ∧ Below w.heap.size w w' := by
 have q : Hid (Calls Tryz.prog 32 #[.pointer (some ⟨B, 0, none⟩)] w fun e w' => e = .returned (.tuple #[Gr.tokV S ts, .bool (decide (ts ≠ []))]) ∧ Below w.heap.size w w') := gr_next w B S ts h
 have hlt := h.lt
 have ha := h.a
 have hk := h.k
 clear h
 cases ts with
 | nil =>
  unfold Gr.tokV Gr.kd Gr.hd Gr.hn Gr.at0 at q
  go_enter Tryz.func14, Tryz.ntmps14
  go_wp2_with (go_at_call 32; refine q.out.mono ?_; rintro e w1 ⟨rfl, hB1⟩; have hlt1 : B < w1.heap.size := Nat.lt_of_lt_of_le hlt hB1.size; have ha1 : w1.cell? ⟨B, 2, none⟩ = some (.int .i64 0) := (hB1.cell hlt).trans ha; have hk1 : w1.cell? ⟨B, 3, none⟩ = some (.int .i64 0) := (hB1.cell hlt).trans hk)
  all_goals first | go_ret2 | (go_region; go_wp2; go_ret2)
  all_goals exact ⟨rfl, by first | exact bl_alloc hB1 _ | exact (bl_alloc hB1 _).drew⟩
 | cons t r =>
  unfold Gr.tokV at q
  generalize (Gr.kd (t :: r) : Int) = K at *
  generalize Gr.hd (t :: r) = T at *
  generalize (Gr.hn (t :: r) : Int) = N at *
  generalize Gr.at0 S (t :: r) = A at *
  go_enter Tryz.func14, Tryz.ntmps14
  go_wp2_with (go_at_call 32; refine q.out.mono ?_; rintro e w1 ⟨rfl, hB1⟩)
  all_goals first | go_ret2 | (go_region; go_wp2; go_ret2)
  all_goals exact ⟨rfl, by first | exact bl_alloc hB1 _ | exact (bl_alloc hB1 _).drew⟩

set_option maxHeartbeats 800000 in
set_option maxRecDepth 100000 in
theorem gr_done_failed (w : World) (B S : Nat) (p c : Int) (h : Rf w B S p c) :
  Calls Tryz.prog 14 #[.pointer (some ⟨B, 0, none⟩)] w fun e w' => e = .returned (.tuple #[.int .i64 p, .int .i64 c]) ∧ Below w.heap.size w w' := by
 have q : Hid (Calls Tryz.prog 32 #[.pointer (some ⟨B, 0, none⟩)] w fun e w' => e = .returned (.tuple #[.agg #[.int .i64 0, .string ⟨#[]⟩, .int .i64 0, .int .i64 0], .bool false]) ∧ Below w.heap.size w w') := gr_next_failed w B S p c h
 have hlt := h.lt
 have ha := h.a
 have hk := h.k
 clear h
 go_enter Tryz.func14, Tryz.ntmps14
 go_wp2_with (go_at_call 32; refine q.out.mono ?_; rintro e w1 ⟨rfl, hB1⟩; have hlt1 : B < w1.heap.size := Nat.lt_of_lt_of_le hlt hB1.size; have ha1 : w1.cell? ⟨B, 2, none⟩ = some (.int .i64 p) := (hB1.cell hlt).trans ha; have hk1 : w1.cell? ⟨B, 3, none⟩ = some (.int .i64 c) := (hB1.cell hlt).trans hk)
 all_goals first | go_ret2 | (go_region; go_wp2; go_ret2)
 all_goals exact ⟨rfl, by first | exact bl_alloc hB1 _ | exact (bl_alloc hB1 _).drew⟩
end Go.Proofs.YtjebepnphoeiaabGreatDoor
namespace Go.Proofs.YtjebepnphoeiaabGreatDoor
set_option linter.unusedVariables false

def Gr.Nz : Gr.Res → Prop
 | .bad _ c => c = 3 ∨ c = 11
 | _ => True
def Gr.PNz : Gr.PRes → Prop
 | .bad _ c => c = 3 ∨ c = 11
 | _ => True
theorem Gr.Nz.bind {a : Gr.Res} {k : Nd → Gr.Ts → Gr.Res} (h : Gr.Nz a) (hk : ∀ v r, Gr.Nz (k v r)) : Gr.Nz (a.bind k) := by
 cases a with
 | ok v r => exact hk v r
 | bad r c => exact h
 | out => trivial
theorem Gr.PNz.bind {a : Gr.PRes} {k : List ByteArray → Bool → Gr.Ts → Gr.Res} (h : Gr.PNz a) (hk : ∀ p l r, Gr.Nz (k p l r)) : Gr.Nz (a.bind k) := by
 cases a with
 | ok p l r => exact hk p l r
 | bad r c => exact h
theorem Gr.Nz.need {x : List UInt8} {ts : Gr.Ts} {k : Gr.Ts → Gr.Res} (hk : ∀ r, Gr.Nz (k r)) : Gr.Nz (Gr.need x ts k) := by
 unfold Gr.need; split
 ·
  exact hk _
 ·
  exact .inr rfl
theorem Gr.Nz.name {q : Nat} {ts : Gr.Ts} {k : ByteArray → Gr.Ts → Gr.Res} (hk : ∀ s r, Gr.Nz (k s r)) : Gr.Nz (Gr.name q ts k) := by
 unfold Gr.name; split
 ·
  exact hk _ _
 ·
  exact .inr rfl
theorem Gr.Nz.ite {c : Prop} [Decidable c] {a b : Gr.Res} (h1 : Gr.Nz a) (h2 : Gr.Nz b) : Gr.Nz (if c then a else b) := by
 split
 ·
  exact h1
 ·
  exact h2
theorem Gr.Nz.path (lo up : Bool) (first : Gr.Ts) : ∀ (k : Nat) (ts : Gr.Ts) (acc : List ByteArray), Gr.PNz (Gr.path lo up first k ts acc)
 | 0, ts, acc => by
  unfold Gr.path
  split
  ·
   exact .inr rfl
  ·
   exact .inl rfl
 | k + 1, ts, acc => by
  unfold Gr.path
  split
  ·
   exact .inr rfl
  ·
   show Gr.PNz (if _ then _ else _)
   split
   ·
    exact Gr.Nz.path lo up first k _ _
   ·
    split
    ·
     trivial
    ·
     exact .inr rfl
theorem Gr.nz : ∀ (f : Nat) (nt : Gr.Nt) (ts : Gr.Ts), Gr.Nz (Gr.g f nt ts)
 | 0, nt, ts => trivial
 | f + 1, nt, ts => by
  have use : ∀ (nt' : Gr.Nt) (ts' : Gr.Ts), Gr.Nz (Gr.g f nt' ts') := Gr.nz f
  have hl : ∀ ts, Gr.PNz (Gr.low ts) := fun ts => Gr.Nz.path _ _ _ _ _ _
  have hh : ∀ ts, Gr.PNz (Gr.high ts) := fun ts => Gr.Nz.path _ _ _ _ _ _
  have he : ∀ ts, Gr.PNz (Gr.either ts) := fun ts => Gr.Nz.path _ _ _ _ _ _
  cases nt <;> unfold Gr.g <;> simp only []
  all_goals repeat' first
   | exact use _ _
   | exact Or.inr rfl
   | exact trivial
   | (refine Gr.Nz.need fun _ => ?_)
   | (refine Gr.Nz.name fun _ _ => ?_)
   | (refine Gr.Nz.ite ?_ ?_)
   | (refine Gr.PNz.bind (hl _) fun _ _ _ => ?_)
   | (refine Gr.PNz.bind (hh _) fun _ _ _ => ?_)
   | (refine Gr.PNz.bind (he _) fun _ _ _ => ?_)
   | (refine Gr.Nz.bind (use _ _) fun _ _ => ?_)
theorem Gr.bad_ne {f : Nat} {nt : Gr.Nt} {ts r : Gr.Ts} {c : Int} (h : Gr.g f nt ts = .bad r c) : c ≠ 0 := by
 have := Gr.nz f nt ts
 rw [h] at this
 rcases this with h | h <;> omega
end Go.Proofs.YtjebepnphoeiaabGreatDoor
