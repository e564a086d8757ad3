/- Pieces: GrEp. -/
import Derived.Test.YtjebepnphoeiaaaGreatDoorQbw
namespace Go.Proofs.YtjebepnphoeiaaaGreatDoor
open Go.RowKit
set_option linter.unusedVariables false
set_option linter.unusedSimpArgs false

theorem Gr.whole_node {nt : Gr.Nt} {right : Nd → Int} {l : List UInt8} {nd : Nd} (h : Gr.whole nt right l = .node nd) : ∃ ts, Lx.lex l = .good ts ∧ Gr.g Gr.enough nt ts = .ok nd [] ∧ right nd = 0 := by
 unfold Gr.whole at h
 cases hl : Lx.lex l with
 | bad n c => rw [hl] at h; cases h
 | good ts =>
  rw [hl] at h
  simp only at h
  cases hg : Gr.g Gr.enough nt ts with
  | out => rw [hg] at h; cases h
  | bad r c => rw [hg] at h; cases h
  | ok v r =>
   rw [hg] at h
   cases r with
   | cons t r => cases h
   | nil =>
    simp only at h
    split at h
    ·
     next h0 => cases h; exact ⟨ts, rfl, hg, h0⟩
    ·
     cases h
theorem Gr.whole_codes {nt : Gr.Nt} (hnt : nt.rank ≤ 50) {right : Nd → Int} {l : List UInt8} {p c : Int} (h : Gr.whole nt right l = .err p c) : c ≠ 0 := by
 unfold Gr.whole at h
 cases hl : Lx.lex l with
 | bad n c2 => rw [hl] at h; cases h; exact Gr.lex_codes hl
 | good ts =>
  rw [hl] at h
  simp only at h
  have hlen := (Gr.lex_ok hl).2.1
  have hfin := Gr.fine Gr.enough nt ts (by unfold Gr.enough; omega)
  cases hg : Gr.g Gr.enough nt ts with
  | out => rw [hg] at hfin; exact hfin.elim
  | bad r c2 => rw [hg] at h; cases h; exact Gr.bad_ne hg
  | ok v r =>
   rw [hg] at h
   cases r with
   | cons t r => cases h; decide
   | nil =>
    simp only at h
    split at h
    ·
     cases h
    ·
     next h0 => cases h; exact h0
theorem Gr.stop41 (n : Nat) : Gr.Stop [⟨6, [41], 0, n⟩] := ⟨rfl, fun x h => by
 unfold Gr.isT at h
 rw [Bool.and_eq_true, decide_eq_true_iff] at h
 exact .inl h.2.symm⟩
theorem Gr.no_star {l : List UInt8} {ts : List Lx.Tok} {nd : Nd} (hl : Lx.lex l = .good ts) (hg : Gr.g Gr.enough .exp ts = .ok nd []) (m : List UInt8) (x : UInt8) (hx : x ≠ 42) : (l ++ x :: m).head? ≠ some 42 := by
 cases l with
 | nil => intro e; exact hx (by simpa using e)
 | cons c l =>
  intro e
  obtain rfl : c = 42 := by simpa using e
  obtain ⟨-, -, hN⟩ := Lx.lex_good hl
  have h1 := Lx.lexN_cons (l := 42 :: l) (Lx.mk42 l) rfl 1023
  rw [hN] at h1
  cases h2 : Lx.lexN 1023 l with
  | bad n c2 => rw [h2] at h1; cases h1
  | good us =>
   rw [h2] at h1
   cases h1
   have := Gr.exp_beg hg
   rw [Gr.begX_mark rfl (.inr rfl)] at this
   cases this
theorem Gr.lex_behind {l : List UInt8} {ts : List Lx.Tok} (hl : Lx.lex l = .good ts) : ∃ us, us.map Lx.Tok.core = ts.map Lx.Tok.core ∧ Lx.lexN (ts.length + 1) (l ++ [10, 41]) = .good (us ++ [⟨6, [41], 0, 1⟩]) := by
 obtain ⟨-, -, hN⟩ := Lx.lex_good hl
 have h1 : Lx.lexN 1 [41] = .good [⟨6, [41], 0, 1⟩] := by
  have h2 := Lx.lexN_cons (l := [41]) (Lx.mk41 []) rfl 0
  rw [Lx.lexN_nil (q := []) (fun m => rfl) 0] at h2
  exact h2
 exact Lx.append_lex ts 1024 l hN 10 [41] 1 _ (by decide) h1
theorem Gr.parens1 {l : List UInt8} {nd : Nd} (h : Gr.whole .exp Nd.rightX l = .node nd) : Gr.whole .exp Nd.rightX (40 :: (l ++ [10, 41])) = .node nd ∨ ∃ p, Gr.whole .exp Nd.rightX (40 :: (l ++ [10, 41])) = .err p 3 := by
 obtain ⟨ts, hl, hg, h0⟩ := Gr.whole_node h
 obtain ⟨us, hc, hu⟩ := Gr.lex_behind hl
 have h1 := Lx.lexN_cons (l := 40 :: (l ++ [10, 41])) (Lx.mk40 (Gr.no_star hl hg [41] 10 (by decide))) rfl (ts.length + 1)
 rw [hu] at h1
 rcases Lx.lex_cases h1 with ⟨h2, hlen⟩ | ⟨n, h2⟩
 ·
  left
  have h3 := Gr.paren (n := ([40] ++ (l ++ [10, 41])).length) (Gr.ahead (Gr.stop41 1) hc hg)
  have h4 := Gr.enough_of hlen h3
  unfold Gr.whole
  rw [h2]
  simp only
  rw [h4]
  simp only
  rw [if_pos h0]
 ·
  right
  unfold Gr.whole
  rw [h2]
  exact ⟨_, rfl⟩
theorem Gr.parens2 {l : List UInt8} {nd : Nd} (h : Gr.whole .exp Nd.rightX l = .node nd) : Gr.whole .exp Nd.rightX (l ++ [10, 41]) = .err ((l.length : Int) + 1) 11 ∨ ∃ p, Gr.whole .exp Nd.rightX (l ++ [10, 41]) = .err p 3 := by
 obtain ⟨ts, hl, hg, h0⟩ := Gr.whole_node h
 obtain ⟨us, hc, hu⟩ := Gr.lex_behind hl
 rcases Lx.lex_cases hu with ⟨h2, hlen⟩ | ⟨n, h2⟩
 ·
  left
  have h4 := Gr.ahead (Gr.stop41 1) hc hg
  unfold Gr.whole
  rw [h2]
  simp only
  rw [h4]
  simp only
  rw [List.length_append]
  congr 1
 ·
  right
  unfold Gr.whole
  rw [h2]
  exact ⟨_, rfl⟩

set_option maxHeartbeats 8000000 in
set_option maxRecDepth 100000 in
theorem parens_walk (s : ByteArray) (hs : s.size ≤ 140737488351232) (w : World) (hE : Er w) :
  Calls Tryz.prog 8 #[.string s] w fun e w' => e = .returned (.bool true) ∧ Below w.heap.size w w' := by
 have HE : Hid (∀ W, Below w.heap.size w W → Er W) := fun W h => hE.below h (Nat.le_refl _)
 have hsm : s.size ≤ maxLen := by unfold maxLen; omega
 have hsz : s.data.toList.length = s.size := Array.length_toList
 cases hR : Gr.whole .exp Nd.rightX s.data.toList with
 | err p c =>
  have hc := Gr.whole_codes (by decide) hR
  have ce : Hid (∀ W, Er W → Calls Tryz.prog 9 #[.string s] W fun e w' => (∃ vs n, e = .returned (.tuple #[.agg vs.toArray, .int .i64 p, .int .i64 c]) ∧ At w' Any n 2 vs Gr.noExp) ∧ Below W.heap.size W w') := fun W h => gr_Exp_any s hsm W h _ hR
  have hcb : (c == 0) = false := by simpa using hc
  clear hs hR hE hsm hsz
  go_enter Tryz.func8, Tryz.ntmps8
  go_wp2_with (first
   | (go_at_call 9; refine (ce.out _ (HE.out _ (Below.refl _ _))).mono ?_; rintro e w1 ⟨⟨va, na, rfl, hx⟩, hb1⟩; obtain ⟨xi, xj, xk, xa, xn, xc, xd0, xm0, xe0, xd1, xm1, xe1, xd2, xm2, xe2, xd3, xm3, xe3, rfl⟩ := hx.exp_form)
   | (go_at_call 12; refine (parseAlive _ (HE.out _ (bl_alloc hb1 _))).mono ?_; rintro e w3 ⟨rfl, hb3⟩))
  go_ret
  exact ⟨rfl, bl_tr (bl_alloc hb1 _) hb3⟩
 | node nd =>
  have ce : Hid (∀ W, Er W → Calls Tryz.prog 9 #[.string s] W fun e w' => (∃ vs n, e = .returned (.tuple #[.agg vs.toArray, .int .i64 0, .int .i64 0]) ∧ At w' Any n 2 vs nd) ∧ Below W.heap.size W w') := fun W h => gr_Exp_any s hsm W h _ hR
  by_cases hbig : 4096 < s.size + 3
  ·
   clear hR hE hsm hsz
   go_enter Tryz.func8, Tryz.ntmps8
   go_wp2_with (first
    | (go_at_call 9; refine (ce.out _ (HE.out _ (Below.refl _ _))).mono ?_; rintro e w1 ⟨⟨va, na, rfl, hx⟩, hb1⟩; obtain ⟨xi, xj, xk, xa, xn, xc, xd0, xm0, xe0, xd1, xm1, xe1, xd2, xm2, xe2, xd3, xm3, xe3, rfl⟩ := hx.exp_form)
    | (go_at_call 12; refine (parseAlive _ (HE.out _ (bl_alloc hb1 _))).mono ?_; rintro e w3 ⟨rfl, hb3⟩))
   go_ret
   exact ⟨rfl, bl_tr (bl_alloc hb1 _) hb3⟩
  ·
   obtain ⟨t1, ht1⟩ : ∃ t : ByteArray, (⟨#[40]⟩ : ByteArray) ++ s ++ (⟨#[10, 41]⟩ : ByteArray) = t := ⟨_, rfl⟩
   obtain ⟨t2, ht2⟩ : ∃ t : ByteArray, s ++ (⟨#[10, 41]⟩ : ByteArray) = t := ⟨_, rfl⟩
   have hl1 : t1.data.toList = 40 :: (s.data.toList ++ [10, 41]) := by rw [← ht1, lxApp, lxApp]; rfl
   have hl2 : t2.data.toList = s.data.toList ++ [10, 41] := by rw [← ht2, lxApp]
   have hm1 : t1.size ≤ maxLen := by rw [Lx.size_of hl1, List.length_cons, List.length_append, hsz]; unfold maxLen; simp; omega
   have hm2 : t2.size ≤ maxLen := by rw [Lx.size_of hl2, List.length_append, hsz]; unfold maxLen; simp; omega
   have hp1 := Gr.parens1 hR
   have hp2 := Gr.parens2 hR
   rw [← hl1] at hp1
   rw [← hl2, hsz] at hp2
   have hse := Nd.eq_self nd
   have HT1 : Hid ((⟨#[40]⟩ : ByteArray) ++ s ++ (⟨#[10, 41]⟩ : ByteArray) = t1) := ht1
   have HT2 : Hid (s ++ (⟨#[10, 41]⟩ : ByteArray) = t2) := ht2
   clear hl1 hl2 hR hE hsm hsz ht1 ht2
   rcases hp1 with hq1 | ⟨p1, hq1⟩
   ·
    rcases hp2 with hq2 | ⟨p2, hq2⟩
    ·
     skip
     have cf : Hid (∀ W, Er W → Calls Tryz.prog 9 #[.string t1] W fun e w' => (∃ vs n, e = .returned (.tuple #[.agg vs.toArray, .int .i64 0, .int .i64 0]) ∧ At w' Any n 2 vs nd) ∧ Below W.heap.size W w') := fun W h => gr_Exp_any t1 hm1 W h _ hq1
     have cg : Hid (∀ W, Er W → Calls Tryz.prog 9 #[.string t2] W fun e w' => (∃ vs n, e = .returned (.tuple #[.agg vs.toArray, .int .i64 ((s.size : Int) + 1), .int .i64 11]) ∧ At w' Any n 2 vs Gr.noExp) ∧ Below W.heap.size W w') := fun W h => gr_Exp_any t2 hm2 W h _ hq2
     clear hq1 hq2 hm1 hm2
     go_enter Tryz.func8, Tryz.ntmps8
     go_wp2_with (first
      | (go_at_call 9; have _ := m2; rw [HT2.out]; refine (cg.out _ (HE.out _ (bl_alloc hB2 _))).mono ?_; rintro e w3 ⟨⟨vc, nc, rfl, hz⟩, hb3⟩; obtain ⟨zi, zj, zk, za, zn, zc, zd0, zm0, ze0, zd1, zm1, ze1, zd2, zm2, ze2, zd3, zm3, ze3, rfl⟩ := hz.exp_form; have hx4 : Hid (At (w3.alloc (.cells #[.int .i64 zi, .int .i64 zj, .int .i64 zk, .slice za zn zc, .slice zd0 zm0 ze0, .slice zd1 zm1 ze1, .slice zd2 zm2 ze2, .slice zd3 zm3 ze3] 28)) Any na 2 [.int .i64 xi, .int .i64 xj, .int .i64 xk, .slice xa xn xc, .slice xd0 xm0 xe0, .slice xd1 xm1 xe1, .slice xd2 xm2 xe2, .slice xd3 xm3 xe3] nd) := (hx2.out.anyB hb3).anyB (bl_new _ _); have hy4 : Hid (At (w3.alloc (.cells #[.int .i64 zi, .int .i64 zj, .int .i64 zk, .slice za zn zc, .slice zd0 zm0 ze0, .slice zd1 zm1 ze1, .slice zd2 zm2 ze2, .slice zd3 zm3 ze3] 28)) Any nb 2 [.int .i64 yi, .int .i64 yj, .int .i64 yk, .slice ya yn yc, .slice yd0 ym0 ye0, .slice yd1 ym1 ye1, .slice yd2 ym2 ye2, .slice yd3 ym3 ye3] nd) := (hy2.out.anyB hb3).anyB (bl_new _ _); obtain ⟨⟨ak0, ak1, ak2, ak3, ak4, ak5, ak6, ak7⟩, -⟩ := ((hn2.out.below hb3).below (bl_new w3 (.cells #[.int .i64 zi, .int .i64 zj, .int .i64 zk, .slice za zn zc, .slice zd0 zm0 ze0, .slice zd1 zm1 ze1, .slice zd2 zm2 ze2, .slice zd3 zm3 ze3] 28))).e8; obtain ⟨⟨bk0, bk1, bk2, bk3, bk4, bk5, bk6, bk7⟩, -⟩ := ((ho2.out.below hb3).below (bl_new w3 (.cells #[.int .i64 zi, .int .i64 zj, .int .i64 zk, .slice za zn zc, .slice zd0 zm0 ze0, .slice zd1 zm1 ze1, .slice zd2 zm2 ze2, .slice zd3 zm3 ze3] 28))).e8; have hB4 := bl_alloc (bl_tr (bl_alloc hB2 (.cells #[.int .i64 yi, .int .i64 yj, .int .i64 yk, .slice ya yn yc, .slice yd0 ym0 ye0, .slice yd1 ym1 ye1, .slice yd2 ym2 ye2, .slice yd3 ym3 ye3] 28)) hb3) (.cells #[.int .i64 zi, .int .i64 zj, .int .i64 zk, .slice za zn zc, .slice zd0 zm0 ze0, .slice zd1 zm1 ze1, .slice zd2 zm2 ze2, .slice zd3 zm3 ze3] 28); clear hz hb3 m2)
      | (go_at_call 9; have _ := m1; rw [HT1.out]; refine (cf.out _ (HE.out _ (bl_alloc hB1 _))).mono ?_; rintro e w2 ⟨⟨vb, nb, rfl, hy⟩, hb2⟩; obtain ⟨yi, yj, yk, ya, yn, yc, yd0, ym0, ye0, yd1, ym1, ye1, yd2, ym2, ye2, yd3, ym3, ye3, rfl⟩ := hy.exp_form; have hx2 : Hid (At (w2.alloc (.cells #[.int .i64 yi, .int .i64 yj, .int .i64 yk, .slice ya yn yc, .slice yd0 ym0 ye0, .slice yd1 ym1 ye1, .slice yd2 ym2 ye2, .slice yd3 ym3 ye3] 28)) Any na 2 [.int .i64 xi, .int .i64 xj, .int .i64 xk, .slice xa xn xc, .slice xd0 xm0 xe0, .slice xd1 xm1 xe1, .slice xd2 xm2 xe2, .slice xd3 xm3 xe3] nd) := (hx1.out.anyB hb2).anyB (bl_new _ _); have hy2 : Hid (At (w2.alloc (.cells #[.int .i64 yi, .int .i64 yj, .int .i64 yk, .slice ya yn yc, .slice yd0 ym0 ye0, .slice yd1 ym1 ye1, .slice yd2 ym2 ye2, .slice yd3 ym3 ye3] 28)) Any nb 2 [.int .i64 yi, .int .i64 yj, .int .i64 yk, .slice ya yn yc, .slice yd0 ym0 ye0, .slice yd1 ym1 ye1, .slice yd2 ym2 ye2, .slice yd3 ym3 ye3] nd) := hy.anyB (bl_new _ _); have hn2 : Hid (Bx (w2.alloc (.cells #[.int .i64 yi, .int .i64 yj, .int .i64 yk, .slice ya yn yc, .slice yd0 ym0 ye0, .slice yd1 ym1 ye1, .slice yd2 ym2 ye2, .slice yd3 ym3 ye3] 28)) w1.heap.size [.int .i64 xi, .int .i64 xj, .int .i64 xk, .slice xa xn xc, .slice xd0 xm0 xe0, .slice xd1 xm1 xe1, .slice xd2 xm2 xe2, .slice xd3 xm3 xe3]) := (hn1.out.below hb2).below (bl_new _ _); have ho2 := hid (Bx.new w2 [.int .i64 yi, .int .i64 yj, .int .i64 yk, .slice ya yn yc, .slice yd0 ym0 ye0, .slice yd1 ym1 ye1, .slice yd2 ym2 ye2, .slice yd3 ym3 ye3] 28); have hB2 := bl_tr (bl_alloc hB1 (.cells #[.int .i64 xi, .int .i64 xj, .int .i64 xk, .slice xa xn xc, .slice xd0 xm0 xe0, .slice xd1 xm1 xe1, .slice xd2 xm2 xe2, .slice xd3 xm3 xe3] 28)) hb2; have m2 := True.intro; clear hy hb2 m1)
      | (go_at_call 9; refine (ce.out _ (HE.out _ (Below.refl _ _))).mono ?_; rintro e w1 ⟨⟨va, na, rfl, hx⟩, hB1⟩; obtain ⟨xi, xj, xk, xa, xn, xc, xd0, xm0, xe0, xd1, xm1, xe1, xd2, xm2, xe2, xd3, xm3, xe3, rfl⟩ := hx.exp_form; have hx1 : Hid (At (w1.alloc (.cells #[.int .i64 xi, .int .i64 xj, .int .i64 xk, .slice xa xn xc, .slice xd0 xm0 xe0, .slice xd1 xm1 xe1, .slice xd2 xm2 xe2, .slice xd3 xm3 xe3] 28)) Any na 2 [.int .i64 xi, .int .i64 xj, .int .i64 xk, .slice xa xn xc, .slice xd0 xm0 xe0, .slice xd1 xm1 xe1, .slice xd2 xm2 xe2, .slice xd3 xm3 xe3] nd) := hx.anyB (bl_new _ _); have hn1 := hid (Bx.new w1 [.int .i64 xi, .int .i64 xj, .int .i64 xk, .slice xa xn xc, .slice xd0 xm0 xe0, .slice xd1 xm1 xe1, .slice xd2 xm2 xe2, .slice xd3 xm3 xe3] 28); have m1 := True.intro; clear hx ce)
      | (go_at_call 11; refine (sameExp_any na nb _ [.int .i64 xi, .int .i64 xj, .int .i64 xk, .slice xa xn xc, .slice xd0 xm0 xe0, .slice xd1 xm1 xe1, .slice xd2 xm2 xe2, .slice xd3 xm3 xe3] [.int .i64 yi, .int .i64 yj, .int .i64 yk, .slice ya yn yc, .slice yd0 ym0 ye0, .slice yd1 ym1 ye1, .slice yd2 ym2 ye2, .slice yd3 ym3 ye3] nd nd hx4.out hy4.out).mono ?_; rw [hse]; rintro e w5 ⟨rfl, hb5⟩; have hB5 := bl_tr hB4 hb5)
      | (go_at_call 12; refine (parseAlive _ (HE.out _ hB5)).mono ?_; rintro e w6 ⟨rfl, hb6⟩))
     go_ret
     exact ⟨rfl, bl_tr hB5 hb6⟩
    ·
     skip
     have cf : Hid (∀ W, Er W → Calls Tryz.prog 9 #[.string t1] W fun e w' => (∃ vs n, e = .returned (.tuple #[.agg vs.toArray, .int .i64 0, .int .i64 0]) ∧ At w' Any n 2 vs nd) ∧ Below W.heap.size W w') := fun W h => gr_Exp_any t1 hm1 W h _ hq1
     have cg : Hid (∀ W, Er W → Calls Tryz.prog 9 #[.string t2] W fun e w' => (∃ vs n, e = .returned (.tuple #[.agg vs.toArray, .int .i64 p2, .int .i64 3]) ∧ At w' Any n 2 vs Gr.noExp) ∧ Below W.heap.size W w') := fun W h => gr_Exp_any t2 hm2 W h _ hq2
     clear hq1 hq2 hm1 hm2
     go_enter Tryz.func8, Tryz.ntmps8
     go_wp2_with (first
      | (go_at_call 9; have _ := m2; rw [HT2.out]; refine (cg.out _ (HE.out _ (bl_alloc hB2 _))).mono ?_; rintro e w3 ⟨⟨vc, nc, rfl, hz⟩, hb3⟩; obtain ⟨zi, zj, zk, za, zn, zc, zd0, zm0, ze0, zd1, zm1, ze1, zd2, zm2, ze2, zd3, zm3, ze3, rfl⟩ := hz.exp_form; have hx4 : Hid (At (w3.alloc (.cells #[.int .i64 zi, .int .i64 zj, .int .i64 zk, .slice za zn zc, .slice zd0 zm0 ze0, .slice zd1 zm1 ze1, .slice zd2 zm2 ze2, .slice zd3 zm3 ze3] 28)) Any na 2 [.int .i64 xi, .int .i64 xj, .int .i64 xk, .slice xa xn xc, .slice xd0 xm0 xe0, .slice xd1 xm1 xe1, .slice xd2 xm2 xe2, .slice xd3 xm3 xe3] nd) := (hx2.out.anyB hb3).anyB (bl_new _ _); have hy4 : Hid (At (w3.alloc (.cells #[.int .i64 zi, .int .i64 zj, .int .i64 zk, .slice za zn zc, .slice zd0 zm0 ze0, .slice zd1 zm1 ze1, .slice zd2 zm2 ze2, .slice zd3 zm3 ze3] 28)) Any nb 2 [.int .i64 yi, .int .i64 yj, .int .i64 yk, .slice ya yn yc, .slice yd0 ym0 ye0, .slice yd1 ym1 ye1, .slice yd2 ym2 ye2, .slice yd3 ym3 ye3] nd) := (hy2.out.anyB hb3).anyB (bl_new _ _); obtain ⟨⟨ak0, ak1, ak2, ak3, ak4, ak5, ak6, ak7⟩, -⟩ := ((hn2.out.below hb3).below (bl_new w3 (.cells #[.int .i64 zi, .int .i64 zj, .int .i64 zk, .slice za zn zc, .slice zd0 zm0 ze0, .slice zd1 zm1 ze1, .slice zd2 zm2 ze2, .slice zd3 zm3 ze3] 28))).e8; obtain ⟨⟨bk0, bk1, bk2, bk3, bk4, bk5, bk6, bk7⟩, -⟩ := ((ho2.out.below hb3).below (bl_new w3 (.cells #[.int .i64 zi, .int .i64 zj, .int .i64 zk, .slice za zn zc, .slice zd0 zm0 ze0, .slice zd1 zm1 ze1, .slice zd2 zm2 ze2, .slice zd3 zm3 ze3] 28))).e8; have hB4 := bl_alloc (bl_tr (bl_alloc hB2 (.cells #[.int .i64 yi, .int .i64 yj, .int .i64 yk, .slice ya yn yc, .slice yd0 ym0 ye0, .slice yd1 ym1 ye1, .slice yd2 ym2 ye2, .slice yd3 ym3 ye3] 28)) hb3) (.cells #[.int .i64 zi, .int .i64 zj, .int .i64 zk, .slice za zn zc, .slice zd0 zm0 ze0, .slice zd1 zm1 ze1, .slice zd2 zm2 ze2, .slice zd3 zm3 ze3] 28); clear hz hb3 m2)
      | (go_at_call 9; have _ := m1; rw [HT1.out]; refine (cf.out _ (HE.out _ (bl_alloc hB1 _))).mono ?_; rintro e w2 ⟨⟨vb, nb, rfl, hy⟩, hb2⟩; obtain ⟨yi, yj, yk, ya, yn, yc, yd0, ym0, ye0, yd1, ym1, ye1, yd2, ym2, ye2, yd3, ym3, ye3, rfl⟩ := hy.exp_form; have hx2 : Hid (At (w2.alloc (.cells #[.int .i64 yi, .int .i64 yj, .int .i64 yk, .slice ya yn yc, .slice yd0 ym0 ye0, .slice yd1 ym1 ye1, .slice yd2 ym2 ye2, .slice yd3 ym3 ye3] 28)) Any na 2 [.int .i64 xi, .int .i64 xj, .int .i64 xk, .slice xa xn xc, .slice xd0 xm0 xe0, .slice xd1 xm1 xe1, .slice xd2 xm2 xe2, .slice xd3 xm3 xe3] nd) := (hx1.out.anyB hb2).anyB (bl_new _ _); have hy2 : Hid (At (w2.alloc (.cells #[.int .i64 yi, .int .i64 yj, .int .i64 yk, .slice ya yn yc, .slice yd0 ym0 ye0, .slice yd1 ym1 ye1, .slice yd2 ym2 ye2, .slice yd3 ym3 ye3] 28)) Any nb 2 [.int .i64 yi, .int .i64 yj, .int .i64 yk, .slice ya yn yc, .slice yd0 ym0 ye0, .slice yd1 ym1 ye1, .slice yd2 ym2 ye2, .slice yd3 ym3 ye3] nd) := hy.anyB (bl_new _ _); have hn2 : Hid (Bx (w2.alloc (.cells #[.int .i64 yi, .int .i64 yj, .int .i64 yk, .slice ya yn yc, .slice yd0 ym0 ye0, .slice yd1 ym1 ye1, .slice yd2 ym2 ye2, .slice yd3 ym3 ye3] 28)) w1.heap.size [.int .i64 xi, .int .i64 xj, .int .i64 xk, .slice xa xn xc, .slice xd0 xm0 xe0, .slice xd1 xm1 xe1, .slice xd2 xm2 xe2, .slice xd3 xm3 xe3]) := (hn1.out.below hb2).below (bl_new _ _); have ho2 := hid (Bx.new w2 [.int .i64 yi, .int .i64 yj, .int .i64 yk, .slice ya yn yc, .slice yd0 ym0 ye0, .slice yd1 ym1 ye1, .slice yd2 ym2 ye2, .slice yd3 ym3 ye3] 28); have hB2 := bl_tr (bl_alloc hB1 (.cells #[.int .i64 xi, .int .i64 xj, .int .i64 xk, .slice xa xn xc, .slice xd0 xm0 xe0, .slice xd1 xm1 xe1, .slice xd2 xm2 xe2, .slice xd3 xm3 xe3] 28)) hb2; have m2 := True.intro; clear hy hb2 m1)
      | (go_at_call 9; refine (ce.out _ (HE.out _ (Below.refl _ _))).mono ?_; rintro e w1 ⟨⟨va, na, rfl, hx⟩, hB1⟩; obtain ⟨xi, xj, xk, xa, xn, xc, xd0, xm0, xe0, xd1, xm1, xe1, xd2, xm2, xe2, xd3, xm3, xe3, rfl⟩ := hx.exp_form; have hx1 : Hid (At (w1.alloc (.cells #[.int .i64 xi, .int .i64 xj, .int .i64 xk, .slice xa xn xc, .slice xd0 xm0 xe0, .slice xd1 xm1 xe1, .slice xd2 xm2 xe2, .slice xd3 xm3 xe3] 28)) Any na 2 [.int .i64 xi, .int .i64 xj, .int .i64 xk, .slice xa xn xc, .slice xd0 xm0 xe0, .slice xd1 xm1 xe1, .slice xd2 xm2 xe2, .slice xd3 xm3 xe3] nd) := hx.anyB (bl_new _ _); have hn1 := hid (Bx.new w1 [.int .i64 xi, .int .i64 xj, .int .i64 xk, .slice xa xn xc, .slice xd0 xm0 xe0, .slice xd1 xm1 xe1, .slice xd2 xm2 xe2, .slice xd3 xm3 xe3] 28); have m1 := True.intro; clear hx ce)
      | (go_at_call 11; refine (sameExp_any na nb _ [.int .i64 xi, .int .i64 xj, .int .i64 xk, .slice xa xn xc, .slice xd0 xm0 xe0, .slice xd1 xm1 xe1, .slice xd2 xm2 xe2, .slice xd3 xm3 xe3] [.int .i64 yi, .int .i64 yj, .int .i64 yk, .slice ya yn yc, .slice yd0 ym0 ye0, .slice yd1 ym1 ye1, .slice yd2 ym2 ye2, .slice yd3 ym3 ye3] nd nd hx4.out hy4.out).mono ?_; rw [hse]; rintro e w5 ⟨rfl, hb5⟩; have hB5 := bl_tr hB4 hb5)
      | (go_at_call 12; refine (parseAlive _ (HE.out _ hB5)).mono ?_; rintro e w6 ⟨rfl, hb6⟩))
     go_ret
     exact ⟨rfl, bl_tr hB5 hb6⟩
   ·
    rcases hp2 with hq2 | ⟨p2, hq2⟩
    ·
     skip
     have cf : Hid (∀ W, Er W → Calls Tryz.prog 9 #[.string t1] W fun e w' => (∃ vs n, e = .returned (.tuple #[.agg vs.toArray, .int .i64 p1, .int .i64 3]) ∧ At w' Any n 2 vs Gr.noExp) ∧ Below W.heap.size W w') := fun W h => gr_Exp_any t1 hm1 W h _ hq1
     have cg : Hid (∀ W, Er W → Calls Tryz.prog 9 #[.string t2] W fun e w' => (∃ vs n, e = .returned (.tuple #[.agg vs.toArray, .int .i64 ((s.size : Int) + 1), .int .i64 11]) ∧ At w' Any n 2 vs Gr.noExp) ∧ Below W.heap.size W w') := fun W h => gr_Exp_any t2 hm2 W h _ hq2
     clear hq1 hq2 hm1 hm2
     go_enter Tryz.func8, Tryz.ntmps8
     go_wp2_with (first
      | (go_at_call 9; have _ := m2; rw [HT2.out]; refine (cg.out _ (HE.out _ (bl_alloc hB2 _))).mono ?_; rintro e w3 ⟨⟨vc, nc, rfl, hz⟩, hb3⟩; obtain ⟨zi, zj, zk, za, zn, zc, zd0, zm0, ze0, zd1, zm1, ze1, zd2, zm2, ze2, zd3, zm3, ze3, rfl⟩ := hz.exp_form; have hB4 := bl_alloc (bl_tr (bl_alloc hB2 (.cells #[.int .i64 yi, .int .i64 yj, .int .i64 yk, .slice ya yn yc, .slice yd0 ym0 ye0, .slice yd1 ym1 ye1, .slice yd2 ym2 ye2, .slice yd3 ym3 ye3] 28)) hb3) (.cells #[.int .i64 zi, .int .i64 zj, .int .i64 zk, .slice za zn zc, .slice zd0 zm0 ze0, .slice zd1 zm1 ze1, .slice zd2 zm2 ze2, .slice zd3 zm3 ze3] 28); clear hz hb3 m2)
      | (go_at_call 9; have _ := m1; rw [HT1.out]; refine (cf.out _ (HE.out _ (bl_alloc hB1 _))).mono ?_; rintro e w2 ⟨⟨vb, nb, rfl, hy⟩, hb2⟩; obtain ⟨yi, yj, yk, ya, yn, yc, yd0, ym0, ye0, yd1, ym1, ye1, yd2, ym2, ye2, yd3, ym3, ye3, rfl⟩ := hy.exp_form; have hx2 : Hid (At (w2.alloc (.cells #[.int .i64 yi, .int .i64 yj, .int .i64 yk, .slice ya yn yc, .slice yd0 ym0 ye0, .slice yd1 ym1 ye1, .slice yd2 ym2 ye2, .slice yd3 ym3 ye3] 28)) Any na 2 [.int .i64 xi, .int .i64 xj, .int .i64 xk, .slice xa xn xc, .slice xd0 xm0 xe0, .slice xd1 xm1 xe1, .slice xd2 xm2 xe2, .slice xd3 xm3 xe3] nd) := (hx1.out.anyB hb2).anyB (bl_new _ _); have hy2 : Hid (At (w2.alloc (.cells #[.int .i64 yi, .int .i64 yj, .int .i64 yk, .slice ya yn yc, .slice yd0 ym0 ye0, .slice yd1 ym1 ye1, .slice yd2 ym2 ye2, .slice yd3 ym3 ye3] 28)) Any nb 2 [.int .i64 yi, .int .i64 yj, .int .i64 yk, .slice ya yn yc, .slice yd0 ym0 ye0, .slice yd1 ym1 ye1, .slice yd2 ym2 ye2, .slice yd3 ym3 ye3] Gr.noExp) := hy.anyB (bl_new _ _); have hn2 : Hid (Bx (w2.alloc (.cells #[.int .i64 yi, .int .i64 yj, .int .i64 yk, .slice ya yn yc, .slice yd0 ym0 ye0, .slice yd1 ym1 ye1, .slice yd2 ym2 ye2, .slice yd3 ym3 ye3] 28)) w1.heap.size [.int .i64 xi, .int .i64 xj, .int .i64 xk, .slice xa xn xc, .slice xd0 xm0 xe0, .slice xd1 xm1 xe1, .slice xd2 xm2 xe2, .slice xd3 xm3 xe3]) := (hn1.out.below hb2).below (bl_new _ _); have ho2 := hid (Bx.new w2 [.int .i64 yi, .int .i64 yj, .int .i64 yk, .slice ya yn yc, .slice yd0 ym0 ye0, .slice yd1 ym1 ye1, .slice yd2 ym2 ye2, .slice yd3 ym3 ye3] 28); have hB2 := bl_tr (bl_alloc hB1 (.cells #[.int .i64 xi, .int .i64 xj, .int .i64 xk, .slice xa xn xc, .slice xd0 xm0 xe0, .slice xd1 xm1 xe1, .slice xd2 xm2 xe2, .slice xd3 xm3 xe3] 28)) hb2; have m2 := True.intro; clear hy hb2 m1)
      | (go_at_call 9; refine (ce.out _ (HE.out _ (Below.refl _ _))).mono ?_; rintro e w1 ⟨⟨va, na, rfl, hx⟩, hB1⟩; obtain ⟨xi, xj, xk, xa, xn, xc, xd0, xm0, xe0, xd1, xm1, xe1, xd2, xm2, xe2, xd3, xm3, xe3, rfl⟩ := hx.exp_form; have hx1 : Hid (At (w1.alloc (.cells #[.int .i64 xi, .int .i64 xj, .int .i64 xk, .slice xa xn xc, .slice xd0 xm0 xe0, .slice xd1 xm1 xe1, .slice xd2 xm2 xe2, .slice xd3 xm3 xe3] 28)) Any na 2 [.int .i64 xi, .int .i64 xj, .int .i64 xk, .slice xa xn xc, .slice xd0 xm0 xe0, .slice xd1 xm1 xe1, .slice xd2 xm2 xe2, .slice xd3 xm3 xe3] nd) := hx.anyB (bl_new _ _); have hn1 := hid (Bx.new w1 [.int .i64 xi, .int .i64 xj, .int .i64 xk, .slice xa xn xc, .slice xd0 xm0 xe0, .slice xd1 xm1 xe1, .slice xd2 xm2 xe2, .slice xd3 xm3 xe3] 28); have m1 := True.intro; clear hx ce)
      | (go_at_call 12; refine (parseAlive _ (HE.out _ hB4)).mono ?_; rintro e w6 ⟨rfl, hb6⟩))
     go_ret
     exact ⟨rfl, bl_tr hB4 hb6⟩
    ·
     skip
     have cf : Hid (∀ W, Er W → Calls Tryz.prog 9 #[.string t1] W fun e w' => (∃ vs n, e = .returned (.tuple #[.agg vs.toArray, .int .i64 p1, .int .i64 3]) ∧ At w' Any n 2 vs Gr.noExp) ∧ Below W.heap.size W w') := fun W h => gr_Exp_any t1 hm1 W h _ hq1
     have cg : Hid (∀ W, Er W → Calls Tryz.prog 9 #[.string t2] W fun e w' => (∃ vs n, e = .returned (.tuple #[.agg vs.toArray, .int .i64 p2, .int .i64 3]) ∧ At w' Any n 2 vs Gr.noExp) ∧ Below W.heap.size W w') := fun W h => gr_Exp_any t2 hm2 W h _ hq2
     clear hq1 hq2 hm1 hm2
     go_enter Tryz.func8, Tryz.ntmps8
     go_wp2_with (first
      | (go_at_call 9; have _ := m2; rw [HT2.out]; refine (cg.out _ (HE.out _ (bl_alloc hB2 _))).mono ?_; rintro e w3 ⟨⟨vc, nc, rfl, hz⟩, hb3⟩; obtain ⟨zi, zj, zk, za, zn, zc, zd0, zm0, ze0, zd1, zm1, ze1, zd2, zm2, ze2, zd3, zm3, ze3, rfl⟩ := hz.exp_form; have hB4 := bl_alloc (bl_tr (bl_alloc hB2 (.cells #[.int .i64 yi, .int .i64 yj, .int .i64 yk, .slice ya yn yc, .slice yd0 ym0 ye0, .slice yd1 ym1 ye1, .slice yd2 ym2 ye2, .slice yd3 ym3 ye3] 28)) hb3) (.cells #[.int .i64 zi, .int .i64 zj, .int .i64 zk, .slice za zn zc, .slice zd0 zm0 ze0, .slice zd1 zm1 ze1, .slice zd2 zm2 ze2, .slice zd3 zm3 ze3] 28); clear hz hb3 m2)
      | (go_at_call 9; have _ := m1; rw [HT1.out]; refine (cf.out _ (HE.out _ (bl_alloc hB1 _))).mono ?_; rintro e w2 ⟨⟨vb, nb, rfl, hy⟩, hb2⟩; obtain ⟨yi, yj, yk, ya, yn, yc, yd0, ym0, ye0, yd1, ym1, ye1, yd2, ym2, ye2, yd3, ym3, ye3, rfl⟩ := hy.exp_form; have hx2 : Hid (At (w2.alloc (.cells #[.int .i64 yi, .int .i64 yj, .int .i64 yk, .slice ya yn yc, .slice yd0 ym0 ye0, .slice yd1 ym1 ye1, .slice yd2 ym2 ye2, .slice yd3 ym3 ye3] 28)) Any na 2 [.int .i64 xi, .int .i64 xj, .int .i64 xk, .slice xa xn xc, .slice xd0 xm0 xe0, .slice xd1 xm1 xe1, .slice xd2 xm2 xe2, .slice xd3 xm3 xe3] nd) := (hx1.out.anyB hb2).anyB (bl_new _ _); have hy2 : Hid (At (w2.alloc (.cells #[.int .i64 yi, .int .i64 yj, .int .i64 yk, .slice ya yn yc, .slice yd0 ym0 ye0, .slice yd1 ym1 ye1, .slice yd2 ym2 ye2, .slice yd3 ym3 ye3] 28)) Any nb 2 [.int .i64 yi, .int .i64 yj, .int .i64 yk, .slice ya yn yc, .slice yd0 ym0 ye0, .slice yd1 ym1 ye1, .slice yd2 ym2 ye2, .slice yd3 ym3 ye3] Gr.noExp) := hy.anyB (bl_new _ _); have hn2 : Hid (Bx (w2.alloc (.cells #[.int .i64 yi, .int .i64 yj, .int .i64 yk, .slice ya yn yc, .slice yd0 ym0 ye0, .slice yd1 ym1 ye1, .slice yd2 ym2 ye2, .slice yd3 ym3 ye3] 28)) w1.heap.size [.int .i64 xi, .int .i64 xj, .int .i64 xk, .slice xa xn xc, .slice xd0 xm0 xe0, .slice xd1 xm1 xe1, .slice xd2 xm2 xe2, .slice xd3 xm3 xe3]) := (hn1.out.below hb2).below (bl_new _ _); have ho2 := hid (Bx.new w2 [.int .i64 yi, .int .i64 yj, .int .i64 yk, .slice ya yn yc, .slice yd0 ym0 ye0, .slice yd1 ym1 ye1, .slice yd2 ym2 ye2, .slice yd3 ym3 ye3] 28); have hB2 := bl_tr (bl_alloc hB1 (.cells #[.int .i64 xi, .int .i64 xj, .int .i64 xk, .slice xa xn xc, .slice xd0 xm0 xe0, .slice xd1 xm1 xe1, .slice xd2 xm2 xe2, .slice xd3 xm3 xe3] 28)) hb2; have m2 := True.intro; clear hy hb2 m1)
      | (go_at_call 9; refine (ce.out _ (HE.out _ (Below.refl _ _))).mono ?_; rintro e w1 ⟨⟨va, na, rfl, hx⟩, hB1⟩; obtain ⟨xi, xj, xk, xa, xn, xc, xd0, xm0, xe0, xd1, xm1, xe1, xd2, xm2, xe2, xd3, xm3, xe3, rfl⟩ := hx.exp_form; have hx1 : Hid (At (w1.alloc (.cells #[.int .i64 xi, .int .i64 xj, .int .i64 xk, .slice xa xn xc, .slice xd0 xm0 xe0, .slice xd1 xm1 xe1, .slice xd2 xm2 xe2, .slice xd3 xm3 xe3] 28)) Any na 2 [.int .i64 xi, .int .i64 xj, .int .i64 xk, .slice xa xn xc, .slice xd0 xm0 xe0, .slice xd1 xm1 xe1, .slice xd2 xm2 xe2, .slice xd3 xm3 xe3] nd) := hx.anyB (bl_new _ _); have hn1 := hid (Bx.new w1 [.int .i64 xi, .int .i64 xj, .int .i64 xk, .slice xa xn xc, .slice xd0 xm0 xe0, .slice xd1 xm1 xe1, .slice xd2 xm2 xe2, .slice xd3 xm3 xe3] 28); have m1 := True.intro; clear hx ce)
      | (go_at_call 12; refine (parseAlive _ (HE.out _ hB4)).mono ?_; rintro e w6 ⟨rfl, hb6⟩))
     go_ret
     exact ⟨rfl, bl_tr hB4 hb6⟩
end Go.Proofs.YtjebepnphoeiaaaGreatDoor
