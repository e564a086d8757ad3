/- Pieces: GrBd. -/
import Derived.Test.YtjebepnphoeiaabGreatDoorQbf
namespace Go.Proofs.YtjebepnphoeiaabGreatDoor
open Go.RowKit
set_option linter.unusedVariables false
set_option linter.unusedSimpArgs false

def Gr.decE (f : Nat) (k : Int) (s : ByteArray) (p : List ByteArray) (l : List Nd) (ts : Gr.Ts) : Gr.Res := Gr.need [61] ts fun r => (Gr.g f .exp r).bind fun e r2 => .ok (Gr.decN k s p l [e]) r2
def Gr.decR (f : Nat) (k : Int) (s : ByteArray) (p : List ByteArray) (ts : Gr.Ts) : Gr.Res := if Gr.isT [58] ts = true then (Gr.g f .ty ts.tail).bind fun t r => Gr.decE f k s p [t] r else Gr.decE f k s p [] ts
def Gr.decF (f : Nat) (ts : Gr.Ts) : Gr.Res :=
 if Gr.isT [102, 117, 110] ts = true then Gr.name 1 ts.tail fun s r => Gr.name 1 r fun x r2 => Gr.decR f 2 s (x :: (Gr.lows r2).1) (Gr.lows r2).2
 else Gr.need [118, 97, 108] ts fun r => Gr.name 1 r fun s r2 => Gr.decR f 1 s [] r2
theorem Gr.Mo.le {f f2 : Nat} (nt : Gr.Nt) (ts : Gr.Ts) (h : f ≤ f2) : Gr.Mo (Gr.g f nt ts) (Gr.g f2 nt ts) := by
 by_cases h0 : Gr.g f nt ts = .out
 ·
  exact .inl h0
 ·
  exact .inr (Gr.more h0 h)
theorem Gr.mo_decE (f f2 : Nat) (h : f ≤ f2) (k : Int) (s : ByteArray) (p : List ByteArray) (l : List Nd) (ts : Gr.Ts) : Gr.Mo (Gr.g f (.decEq k s p l) ts) (Gr.decE f2 k s p l ts) := by
 cases f with
 | zero => exact .inl rfl
 | succ f => exact Gr.Mo.need (k := fun r => (Gr.g f .exp r).bind fun e r2 => .ok (Gr.decN k s p l [e]) r2) (l := fun r => (Gr.g f2 .exp r).bind fun e r2 => .ok (Gr.decN k s p l [e]) r2) (Gr.Mo.bind (Gr.Mo.le _ _ (by omega)) (fun _ _ => .inr rfl))
theorem Gr.mo_decR (f : Nat) (k : Int) (s : ByteArray) (p : List ByteArray) (ts : Gr.Ts) : Gr.Mo (Gr.g f (.decTy k s p) ts) (Gr.decR f k s p ts) := by
 cases f with
 | zero => exact .inl rfl
 | succ f => exact Gr.Mo.ite (Gr.Mo.bind (Gr.Mo.le _ _ (by omega)) (fun t r => Gr.mo_decE _ _ (by omega) _ _ _ _ _)) (Gr.mo_decE _ _ (by omega) _ _ _ _ _)
theorem Gr.dec_eq (f : Nat) (ts : Gr.Ts) : Gr.Mo (Gr.g (f + 1) .dec ts) (Gr.decF f ts) :=
 Gr.Mo.ite (Gr.Mo.name fun s => Gr.Mo.name fun x => Gr.mo_decR _ _ _ _ _) (Gr.Mo.need (Gr.Mo.name fun s => Gr.mo_decR _ _ _ _ _))
theorem Gr.place_ok {w : World} {B S : Nat} {ts : Gr.Ts} (h : Rd w B S ts) : -9223372036854775808 ≤ Gr.place S ts ∧ Gr.place S ts ≤ 9223372036854775807 := by
 have := h.small
 cases ts with
 | nil => show _ ≤ (S : Int) ∧ (S : Int) ≤ _; omega
 | cons t r => show _ ≤ ((S - t.left : Nat) : Int) ∧ ((S - t.left : Nat) : Int) ≤ _; omega
theorem Gr.hd_ok {w : World} {B S : Nat} {ts : Gr.Ts} (h : Rd w B S ts) (us : Gr.Ts) (hs : ∀ t, t ∈ us → t ∈ ts) : (Gr.hd us).size ≤ maxLen := by
 cases us with
 | nil => show 0 ≤ maxLen; omega
 | cons t r =>
  have := (h.ok t (hs t (List.mem_cons_self ..))).len
  show t.text.toArray.size ≤ maxLen
  rw [List.size_toArray]; unfold maxLen; omega

set_option maxHeartbeats 12000000 in
set_option maxRecDepth 100000 in
theorem gr_dec (f : Nat) (ihT : Gr.Rule 23 .ty 0 f) (ihE : Gr.Rule 8 .exp 2 f) : Gr.Rule 135 .dec 3 (f + 1) := by
 intro w B S ts h hne
 rcases Gr.dec_eq f ts with h0 | h0
 · exact absurd h0 hne
 rw [← h0] at hne ⊢
 clear h0
 unfold Gr.decF at hne ⊢
 have HP0 := Gr.place_ok h
 have hhd := Gr.hd_ok h
 obtain ⟨P, hP⟩ : ∃ P, Gr.place S ts = P := ⟨_, rfl⟩
 have qp : Hid (∀ ob, Calls Tryz.prog 65 #[.pointer (some ⟨B, 0, none⟩)] (w.alloc ob) fun e w' => e = .returned (.int .i64 P) ∧ w' = w.alloc ob) := fun ob => by rw [← hP]; exact gr_place _ B S ts (h.alloc _)
 rw [hP] at HP0
 have st0 := Stt.init2 h [.int .i64 0, .int .i64 0, .string ⟨#[]⟩, .slice none 0 0, .slice none 0 0, .slice none 0 0, .slice none 0 0, .slice none 0 0, .slice none 0 0] [.int .i64 1, .int .i64 P, .string ⟨#[]⟩, .slice none 0 0, .slice none 0 0, .slice none 0 0, .slice none 0 0, .slice none 0 0, .slice none 0 0] 96 (by simp) (by simp)
 have HP : Hid (-9223372036854775808 ≤ P ∧ P ≤ 9223372036854775807) := HP0
 clear h hP HP0
 cases hF : Gr.isT [102, 117, 110] ts with
 | true =>
  simp only [hF, if_true] at hne ⊢
  by_cases h1 : Gr.kd ts.tail = 1
  · rw [Gr.name, if_pos h1] at hne ⊢
    have HS1 : Hid ((Gr.hd ts.tail).size ≤ maxLen) := hhd _ (fun t ht => List.mem_of_mem_tail ht)
    clear hhd
    by_cases h2 : Gr.kd ts.tail.tail = 1
    · rw [Gr.name, if_pos h2] at hne ⊢
      have qL : Hid (∀ W, Rd W B S ts.tail.tail → Calls Tryz.prog 138 #[.pointer (some ⟨B, 0, none⟩)] W (Gr.LAns B S W (.ok (Gr.hd ts.tail.tail :: (Gr.lows ts.tail.tail.tail).1) true (Gr.lows ts.tail.tail.tail).2))) := fun W hW => by have := gr_params W B S ts.tail.tail hW; unfold Gr.params at this; rw [if_pos h2] at this; exact this
      clear h2
      generalize (Gr.hd ts.tail.tail :: (Gr.lows ts.tail.tail.tail).1) = p at *
      generalize (Gr.lows ts.tail.tail.tail).2 = us at *
      unfold Gr.decR at hne ⊢
      cases hC : Gr.isT [58] us with
      | false =>
       simp only [hC, Bool.false_eq_true, if_false] at hne ⊢
       unfold Gr.decE at hne ⊢
       cases hE : Gr.isT [61] us with
       | false =>
        rw [Gr.need, if_neg (by rw [hE]; simp)]
        clear hne ihT ihE
        go_enter Tryz.func135, Tryz.ntmps135
        go_wp2_with (first | (go_at_call 17; refine (gr_need_no _ B S us st7.out.r ⟨#[61]⟩ hE).mono ?_; rintro e w8 ⟨rfl, hRR, hBB⟩) | (go_at_call 15; refine (st6.out.tkF ⟨#[58]⟩ hC).mono ?_; rintro e w7 ⟨rfl, st7⟩; clear st6) | (go_at_call 138; refine (qL.out _ st4.out.r).mono ?_; rintro e w5 ⟨⟨v, rfl, hv, hvx⟩, hRR, hBB⟩; obtain ⟨va, vc, rfl⟩ := hv.form; have st5 := st4.out.addTx hRR hBB hv hvx; obtain ⟨cj5, zj5⟩ := st5.out.l.ej 3 _ rfl; have st6 := st5.out.set 3 (.slice va p.length vc) (by simp); clear st5; clear hRR hBB hv hvx st4) | (go_at_call 137; refine (st2.out.low h1).mono ?_; rintro e w3 ⟨rfl, st3⟩; obtain ⟨cj3, zj3⟩ := st3.out.l.ej 2 _ rfl; have st4 := st3.out.set 2 (.string (Gr.hd ts.tail)) (by simp); clear st3; clear st2) | (go_at_call 15; refine (st0.out.tkT ⟨#[102, 117, 110]⟩ hF).mono ?_; rintro e w1 ⟨rfl, st1⟩; obtain ⟨cj1, zj1⟩ := st1.out.l.ej 0 _ rfl; have st2 := st1.out.set 0 (.int .i64 2) (by simp); clear st1; clear st0) | (go_at_call 65; refine (qp.out _).mono ?_; rintro e w' ⟨rfl, hw'⟩; rw [hw']; clear hw' w'))
        exact ⟨rfl, rfl, ⟨_, hRR⟩, st7.out.b.trans hBB⟩
       | true =>
        rw [Gr.need, if_pos hE] at hne ⊢
        cases hG : Gr.g f .exp us.tail with
        | out => rw [hG] at hne; exact absurd rfl hne
        | bad r3 c =>
         have qE : Hid (∀ W, Rd W B S us.tail → Calls Tryz.prog 8 #[.pointer (some ⟨B, 0, none⟩)] W (Gr.Ans B S 2 W (.bad r3 c))) := fun W hW => by rw [← hG]; exact ihE W B S us.tail hW (by rw [hG]; simp)
         clear hne hG ihT ihE
         go_enter Tryz.func135, Tryz.ntmps135
         go_wp2_with (first | (go_at_call 8; refine (qE.out _ st8.out.r).mono ?_; rintro e w9 ⟨rfl, hRR, hBB⟩) | (go_at_call 17; refine (st7.out.nd ⟨#[61]⟩ hE).mono ?_; rintro e w8 ⟨rfl, st8⟩; clear st7) | (go_at_call 15; refine (st6.out.tkF ⟨#[58]⟩ hC).mono ?_; rintro e w7 ⟨rfl, st7⟩; clear st6) | (go_at_call 138; refine (qL.out _ st4.out.r).mono ?_; rintro e w5 ⟨⟨v, rfl, hv, hvx⟩, hRR, hBB⟩; obtain ⟨va, vc, rfl⟩ := hv.form; have st5 := st4.out.addTx hRR hBB hv hvx; obtain ⟨cj5, zj5⟩ := st5.out.l.ej 3 _ rfl; have st6 := st5.out.set 3 (.slice va p.length vc) (by simp); clear st5; clear hRR hBB hv hvx st4) | (go_at_call 137; refine (st2.out.low h1).mono ?_; rintro e w3 ⟨rfl, st3⟩; obtain ⟨cj3, zj3⟩ := st3.out.l.ej 2 _ rfl; have st4 := st3.out.set 2 (.string (Gr.hd ts.tail)) (by simp); clear st3; clear st2) | (go_at_call 15; refine (st0.out.tkT ⟨#[102, 117, 110]⟩ hF).mono ?_; rintro e w1 ⟨rfl, st1⟩; obtain ⟨cj1, zj1⟩ := st1.out.l.ej 0 _ rfl; have st2 := st1.out.set 0 (.int .i64 2) (by simp); clear st1; clear st0) | (go_at_call 65; refine (qp.out _).mono ?_; rintro e w' ⟨rfl, hw'⟩; rw [hw']; clear hw' w'))
         exact ⟨rfl, rfl, hRR, st8.out.b.trans hBB⟩
        | ok d r3 =>
         have qE : Hid (∀ W, Rd W B S us.tail → Calls Tryz.prog 8 #[.pointer (some ⟨B, 0, none⟩)] W (Gr.Ans B S 2 W (.ok d r3))) := fun W hW => by rw [← hG]; exact ihE W B S us.tail hW (by rw [hG]; simp)
         simp only [hG, Gr.Res.bind]
         clear hne hG ihT ihE
         go_enter Tryz.func135, Tryz.ntmps135
         go_wp2_with (first | (go_at_call 8; refine (qE.out _ st8.out.r).mono ?_; rintro e w9 ⟨⟨vsz, nz, rfl, ha0⟩, hRR, hBB⟩; obtain ⟨zi, zj, zk, za, zn, zc, zd0, zm0, ze0, zd1, zm1, ze1, zd2, zm2, ze2, zd3, zm3, ze3, rfl⟩ := ha0.exp_form; have st9 := st8.out.addAt hRR hBB ha0; have st10 := st9.out.sl1 (st9.out.p.2) 28 w9.heap.size rfl rfl; clear st9; obtain ⟨cj10, zj10⟩ := st10.out.l.ej 5 _ rfl; have st11 := st10.out.set 5 (.slice (some ⟨w9.heap.size, 0, none⟩) 1 1) (by simp); clear st10; obtain ⟨⟨k0, k1, k2, k3, k4, k5, k6, k7, k8⟩, z0, z1, z2, z3, z4, z5, z6, z7, z8⟩ := st11.out.p.1.1.1.e9; obtain ⟨⟨lk0, lk1, lk2, lk3, lk4, lk5, lk6, lk7, lk8⟩, lz0, lz1, lz2, lz3, lz4, lz5, lz6, lz7, lz8⟩ := st11.out.l.e9; clear hRR hBB ha0 st8) | (go_at_call 17; refine (st7.out.nd ⟨#[61]⟩ hE).mono ?_; rintro e w8 ⟨rfl, st8⟩; clear st7) | (go_at_call 15; refine (st6.out.tkF ⟨#[58]⟩ hC).mono ?_; rintro e w7 ⟨rfl, st7⟩; clear st6) | (go_at_call 138; refine (qL.out _ st4.out.r).mono ?_; rintro e w5 ⟨⟨v, rfl, hv, hvx⟩, hRR, hBB⟩; obtain ⟨va, vc, rfl⟩ := hv.form; have st5 := st4.out.addTx hRR hBB hv hvx; obtain ⟨cj5, zj5⟩ := st5.out.l.ej 3 _ rfl; have st6 := st5.out.set 3 (.slice va p.length vc) (by simp); clear st5; clear hRR hBB hv hvx st4) | (go_at_call 137; refine (st2.out.low h1).mono ?_; rintro e w3 ⟨rfl, st3⟩; obtain ⟨cj3, zj3⟩ := st3.out.l.ej 2 _ rfl; have st4 := st3.out.set 2 (.string (Gr.hd ts.tail)) (by simp); clear st3; clear st2) | (go_at_call 15; refine (st0.out.tkT ⟨#[102, 117, 110]⟩ hF).mono ?_; rintro e w1 ⟨rfl, st1⟩; obtain ⟨cj1, zj1⟩ := st1.out.l.ej 0 _ rfl; have st2 := st1.out.set 0 (.int .i64 2) (by simp); clear st1; clear st0) | (go_at_call 65; refine (qp.out _).mono ?_; rintro e w' ⟨rfl, hw'⟩; rw [hw']; clear hw' w'))
         refine bodyPost_ret (v := .agg #[.int .i64 2, .int .i64 P, .string (Gr.hd ts.tail), .slice va p.length vc, .slice none 0 0, .slice (some ⟨w9.heap.size, 0, none⟩) 1 1, .slice none 0 0, .slice none 0 0, .slice none 0 0]) (by rw [results_cell1 (fn := Tryz.f135) (p := 2) (ty := 96) (by kernel_rfl)]; simp [go_sem, k0, k1, k2, k3, k4, k5, k6, k7, k8]) rfl ?_
         exact st11.out.ans (by simp only [sv]) (At.dec_mk (n := nz) (by decide) HP.out HS1.out (st11.out.p.1.1.2).1 (st11.out.p.1.1.2).2.1 (st11.out.p.1.1.2).2.2 (AtL.none0 ..) (st11.out.p.2) (AtL.none0 ..) (AtL.none0 ..) (AtL.none0 ..))
      | true =>
       simp only [hC, if_true] at hne ⊢
       cases hT : Gr.g f .ty us.tail with
       | out => rw [hT] at hne; exact absurd rfl hne
       | bad r2 c =>
        have qT : Hid (∀ W, Rd W B S us.tail → Calls Tryz.prog 23 #[.pointer (some ⟨B, 0, none⟩)] W (Gr.Ans B S 0 W (.bad r2 c))) := fun W hW => by rw [← hT]; exact ihT W B S us.tail hW (by rw [hT]; simp)
        clear hne hT ihT ihE
        go_enter Tryz.func135, Tryz.ntmps135
        go_wp2_with (first | (go_at_call 23; refine (qT.out _ st7.out.r).mono ?_; rintro e w8 ⟨rfl, hRR, hBB⟩) | (go_at_call 15; refine (st6.out.tkT ⟨#[58]⟩ hC).mono ?_; rintro e w7 ⟨rfl, st7⟩; clear st6) | (go_at_call 138; refine (qL.out _ st4.out.r).mono ?_; rintro e w5 ⟨⟨v, rfl, hv, hvx⟩, hRR, hBB⟩; obtain ⟨va, vc, rfl⟩ := hv.form; have st5 := st4.out.addTx hRR hBB hv hvx; obtain ⟨cj5, zj5⟩ := st5.out.l.ej 3 _ rfl; have st6 := st5.out.set 3 (.slice va p.length vc) (by simp); clear st5; clear hRR hBB hv hvx st4) | (go_at_call 137; refine (st2.out.low h1).mono ?_; rintro e w3 ⟨rfl, st3⟩; obtain ⟨cj3, zj3⟩ := st3.out.l.ej 2 _ rfl; have st4 := st3.out.set 2 (.string (Gr.hd ts.tail)) (by simp); clear st3; clear st2) | (go_at_call 15; refine (st0.out.tkT ⟨#[102, 117, 110]⟩ hF).mono ?_; rintro e w1 ⟨rfl, st1⟩; obtain ⟨cj1, zj1⟩ := st1.out.l.ej 0 _ rfl; have st2 := st1.out.set 0 (.int .i64 2) (by simp); clear st1; clear st0) | (go_at_call 65; refine (qp.out _).mono ?_; rintro e w' ⟨rfl, hw'⟩; rw [hw']; clear hw' w'))
        exact ⟨rfl, rfl, hRR, st7.out.b.trans hBB⟩
       | ok t r2 =>
        have qT : Hid (∀ W, Rd W B S us.tail → Calls Tryz.prog 23 #[.pointer (some ⟨B, 0, none⟩)] W (Gr.Ans B S 0 W (.ok t r2))) := fun W hW => by rw [← hT]; exact ihT W B S us.tail hW (by rw [hT]; simp)
        simp only [hT, Gr.Res.bind] at hne ⊢
        clear hT
        unfold Gr.decE at hne ⊢
        cases hE : Gr.isT [61] r2 with
        | false =>
         rw [Gr.need, if_neg (by rw [hE]; simp)]
         clear hne ihT ihE
         go_enter Tryz.func135, Tryz.ntmps135
         go_wp2_with (first | (go_at_call 17; refine (gr_need_no _ B S r2 st10.out.r ⟨#[61]⟩ hE).mono ?_; rintro e w11 ⟨rfl, hRR, hBB⟩) | (go_at_call 23; refine (qT.out _ st7.out.r).mono ?_; rintro e w8 ⟨⟨vsy, ny, rfl, ha0⟩, hRR, hBB⟩; obtain ⟨yi, ys, ya, yn, yc, yd, ym, ye, rfl⟩ := ha0.ty_form; have st8 := st7.out.addAt hRR hBB ha0; have st9 := st8.out.sl1 (st8.out.p.2) 41 w8.heap.size rfl rfl; clear st8; obtain ⟨cj9, zj9⟩ := st9.out.l.ej 4 _ rfl; have st10 := st9.out.set 4 (.slice (some ⟨w8.heap.size, 0, none⟩) 1 1) (by simp); clear st9; clear hRR hBB ha0 st7) | (go_at_call 15; refine (st6.out.tkT ⟨#[58]⟩ hC).mono ?_; rintro e w7 ⟨rfl, st7⟩; clear st6) | (go_at_call 138; refine (qL.out _ st4.out.r).mono ?_; rintro e w5 ⟨⟨v, rfl, hv, hvx⟩, hRR, hBB⟩; obtain ⟨va, vc, rfl⟩ := hv.form; have st5 := st4.out.addTx hRR hBB hv hvx; obtain ⟨cj5, zj5⟩ := st5.out.l.ej 3 _ rfl; have st6 := st5.out.set 3 (.slice va p.length vc) (by simp); clear st5; clear hRR hBB hv hvx st4) | (go_at_call 137; refine (st2.out.low h1).mono ?_; rintro e w3 ⟨rfl, st3⟩; obtain ⟨cj3, zj3⟩ := st3.out.l.ej 2 _ rfl; have st4 := st3.out.set 2 (.string (Gr.hd ts.tail)) (by simp); clear st3; clear st2) | (go_at_call 15; refine (st0.out.tkT ⟨#[102, 117, 110]⟩ hF).mono ?_; rintro e w1 ⟨rfl, st1⟩; obtain ⟨cj1, zj1⟩ := st1.out.l.ej 0 _ rfl; have st2 := st1.out.set 0 (.int .i64 2) (by simp); clear st1; clear st0) | (go_at_call 65; refine (qp.out _).mono ?_; rintro e w' ⟨rfl, hw'⟩; rw [hw']; clear hw' w'))
         exact ⟨rfl, rfl, ⟨_, hRR⟩, st10.out.b.trans hBB⟩
        | true =>
         rw [Gr.need, if_pos hE] at hne ⊢
         cases hG : Gr.g f .exp r2.tail with
         | out => rw [hG] at hne; exact absurd rfl hne
         | bad r3 c =>
          have qE : Hid (∀ W, Rd W B S r2.tail → Calls Tryz.prog 8 #[.pointer (some ⟨B, 0, none⟩)] W (Gr.Ans B S 2 W (.bad r3 c))) := fun W hW => by rw [← hG]; exact ihE W B S r2.tail hW (by rw [hG]; simp)
          clear hne hG ihT ihE
          go_enter Tryz.func135, Tryz.ntmps135
          go_wp2_with (first | (go_at_call 8; refine (qE.out _ st11.out.r).mono ?_; rintro e w12 ⟨rfl, hRR, hBB⟩) | (go_at_call 17; refine (st10.out.nd ⟨#[61]⟩ hE).mono ?_; rintro e w11 ⟨rfl, st11⟩; clear st10) | (go_at_call 23; refine (qT.out _ st7.out.r).mono ?_; rintro e w8 ⟨⟨vsy, ny, rfl, ha0⟩, hRR, hBB⟩; obtain ⟨yi, ys, ya, yn, yc, yd, ym, ye, rfl⟩ := ha0.ty_form; have st8 := st7.out.addAt hRR hBB ha0; have st9 := st8.out.sl1 (st8.out.p.2) 41 w8.heap.size rfl rfl; clear st8; obtain ⟨cj9, zj9⟩ := st9.out.l.ej 4 _ rfl; have st10 := st9.out.set 4 (.slice (some ⟨w8.heap.size, 0, none⟩) 1 1) (by simp); clear st9; clear hRR hBB ha0 st7) | (go_at_call 15; refine (st6.out.tkT ⟨#[58]⟩ hC).mono ?_; rintro e w7 ⟨rfl, st7⟩; clear st6) | (go_at_call 138; refine (qL.out _ st4.out.r).mono ?_; rintro e w5 ⟨⟨v, rfl, hv, hvx⟩, hRR, hBB⟩; obtain ⟨va, vc, rfl⟩ := hv.form; have st5 := st4.out.addTx hRR hBB hv hvx; obtain ⟨cj5, zj5⟩ := st5.out.l.ej 3 _ rfl; have st6 := st5.out.set 3 (.slice va p.length vc) (by simp); clear st5; clear hRR hBB hv hvx st4) | (go_at_call 137; refine (st2.out.low h1).mono ?_; rintro e w3 ⟨rfl, st3⟩; obtain ⟨cj3, zj3⟩ := st3.out.l.ej 2 _ rfl; have st4 := st3.out.set 2 (.string (Gr.hd ts.tail)) (by simp); clear st3; clear st2) | (go_at_call 15; refine (st0.out.tkT ⟨#[102, 117, 110]⟩ hF).mono ?_; rintro e w1 ⟨rfl, st1⟩; obtain ⟨cj1, zj1⟩ := st1.out.l.ej 0 _ rfl; have st2 := st1.out.set 0 (.int .i64 2) (by simp); clear st1; clear st0) | (go_at_call 65; refine (qp.out _).mono ?_; rintro e w' ⟨rfl, hw'⟩; rw [hw']; clear hw' w'))
          exact ⟨rfl, rfl, hRR, st11.out.b.trans hBB⟩
         | ok d r3 =>
          have qE : Hid (∀ W, Rd W B S r2.tail → Calls Tryz.prog 8 #[.pointer (some ⟨B, 0, none⟩)] W (Gr.Ans B S 2 W (.ok d r3))) := fun W hW => by rw [← hG]; exact ihE W B S r2.tail hW (by rw [hG]; simp)
          simp only [hG, Gr.Res.bind]
          clear hne hG ihT ihE
          go_enter Tryz.func135, Tryz.ntmps135
          go_wp2_with (first | (go_at_call 8; refine (qE.out _ st11.out.r).mono ?_; rintro e w12 ⟨⟨vsz, nz, rfl, ha0⟩, hRR, hBB⟩; obtain ⟨zi, zj, zk, za, zn, zc, zd0, zm0, ze0, zd1, zm1, ze1, zd2, zm2, ze2, zd3, zm3, ze3, rfl⟩ := ha0.exp_form; have st12 := st11.out.addAt hRR hBB ha0; have st13 := st12.out.sl1 (st12.out.p.2) 28 w12.heap.size rfl rfl; clear st12; obtain ⟨cj13, zj13⟩ := st13.out.l.ej 5 _ rfl; have st14 := st13.out.set 5 (.slice (some ⟨w12.heap.size, 0, none⟩) 1 1) (by simp); clear st13; obtain ⟨⟨k0, k1, k2, k3, k4, k5, k6, k7, k8⟩, z0, z1, z2, z3, z4, z5, z6, z7, z8⟩ := st14.out.p.1.1.1.1.1.e9; obtain ⟨⟨lk0, lk1, lk2, lk3, lk4, lk5, lk6, lk7, lk8⟩, lz0, lz1, lz2, lz3, lz4, lz5, lz6, lz7, lz8⟩ := st14.out.l.e9; clear hRR hBB ha0 st11) | (go_at_call 17; refine (st10.out.nd ⟨#[61]⟩ hE).mono ?_; rintro e w11 ⟨rfl, st11⟩; clear st10) | (go_at_call 23; refine (qT.out _ st7.out.r).mono ?_; rintro e w8 ⟨⟨vsy, ny, rfl, ha0⟩, hRR, hBB⟩; obtain ⟨yi, ys, ya, yn, yc, yd, ym, ye, rfl⟩ := ha0.ty_form; have st8 := st7.out.addAt hRR hBB ha0; have st9 := st8.out.sl1 (st8.out.p.2) 41 w8.heap.size rfl rfl; clear st8; obtain ⟨cj9, zj9⟩ := st9.out.l.ej 4 _ rfl; have st10 := st9.out.set 4 (.slice (some ⟨w8.heap.size, 0, none⟩) 1 1) (by simp); clear st9; clear hRR hBB ha0 st7) | (go_at_call 15; refine (st6.out.tkT ⟨#[58]⟩ hC).mono ?_; rintro e w7 ⟨rfl, st7⟩; clear st6) | (go_at_call 138; refine (qL.out _ st4.out.r).mono ?_; rintro e w5 ⟨⟨v, rfl, hv, hvx⟩, hRR, hBB⟩; obtain ⟨va, vc, rfl⟩ := hv.form; have st5 := st4.out.addTx hRR hBB hv hvx; obtain ⟨cj5, zj5⟩ := st5.out.l.ej 3 _ rfl; have st6 := st5.out.set 3 (.slice va p.length vc) (by simp); clear st5; clear hRR hBB hv hvx st4) | (go_at_call 137; refine (st2.out.low h1).mono ?_; rintro e w3 ⟨rfl, st3⟩; obtain ⟨cj3, zj3⟩ := st3.out.l.ej 2 _ rfl; have st4 := st3.out.set 2 (.string (Gr.hd ts.tail)) (by simp); clear st3; clear st2) | (go_at_call 15; refine (st0.out.tkT ⟨#[102, 117, 110]⟩ hF).mono ?_; rintro e w1 ⟨rfl, st1⟩; obtain ⟨cj1, zj1⟩ := st1.out.l.ej 0 _ rfl; have st2 := st1.out.set 0 (.int .i64 2) (by simp); clear st1; clear st0) | (go_at_call 65; refine (qp.out _).mono ?_; rintro e w' ⟨rfl, hw'⟩; rw [hw']; clear hw' w'))
          refine bodyPost_ret (v := .agg #[.int .i64 2, .int .i64 P, .string (Gr.hd ts.tail), .slice va p.length vc, .slice (some ⟨w8.heap.size, 0, none⟩) 1 1, .slice (some ⟨w12.heap.size, 0, none⟩) 1 1, .slice none 0 0, .slice none 0 0, .slice none 0 0]) (by rw [results_cell1 (fn := Tryz.f135) (p := 2) (ty := 96) (by kernel_rfl)]; simp [go_sem, k0, k1, k2, k3, k4, k5, k6, k7, k8]) rfl ?_
          exact st14.out.ans (by simp only [sv]) (At.dec_mk (n := max ny nz) (by decide) HP.out HS1.out (st14.out.p.1.1.1.1.2).1 (st14.out.p.1.1.1.1.2).2.1 (st14.out.p.1.1.1.1.2).2.2 (AtL.le (st14.out.p.1.1.2) (Nat.le_max_left ny nz)) (AtL.le (st14.out.p.2) (Nat.le_max_right ny nz)) (AtL.none0 ..) (AtL.none0 ..) (AtL.none0 ..))
    · rw [Gr.name, if_neg h2]
      have qL : Hid (∀ W, Rd W B S ts.tail.tail → Calls Tryz.prog 138 #[.pointer (some ⟨B, 0, none⟩)] W (Gr.LAns B S W (.bad ts.tail.tail 11))) := fun W hW => by have := gr_params W B S ts.tail.tail hW; unfold Gr.params at this; rw [if_neg h2] at this; exact this
      clear h2 hne ihT ihE
      go_enter Tryz.func135, Tryz.ntmps135
      go_wp2_with (first | (go_at_call 138; refine (qL.out _ st4.out.r).mono ?_; rintro e w5 ⟨rfl, hRR, hBB⟩) | (go_at_call 137; refine (st2.out.low h1).mono ?_; rintro e w3 ⟨rfl, st3⟩; obtain ⟨cj3, zj3⟩ := st3.out.l.ej 2 _ rfl; have st4 := st3.out.set 2 (.string (Gr.hd ts.tail)) (by simp); clear st3; clear st2) | (go_at_call 15; refine (st0.out.tkT ⟨#[102, 117, 110]⟩ hF).mono ?_; rintro e w1 ⟨rfl, st1⟩; obtain ⟨cj1, zj1⟩ := st1.out.l.ej 0 _ rfl; have st2 := st1.out.set 0 (.int .i64 2) (by simp); clear st1; clear st0) | (go_at_call 65; refine (qp.out _).mono ?_; rintro e w' ⟨rfl, hw'⟩; rw [hw']; clear hw' w'))
      exact ⟨rfl, rfl, hRR, st4.out.b.trans hBB⟩
  · rw [Gr.name, if_neg h1]
    clear hne ihT ihE hhd
    go_enter Tryz.func135, Tryz.ntmps135
    go_wp2_with (first | (go_at_call 137; refine (gr_low_no _ B S ts.tail st2.out.r h1).mono ?_; rintro e w3 ⟨rfl, hRR, hBB⟩) | (go_at_call 15; refine (st0.out.tkT ⟨#[102, 117, 110]⟩ hF).mono ?_; rintro e w1 ⟨rfl, st1⟩; obtain ⟨cj1, zj1⟩ := st1.out.l.ej 0 _ rfl; have st2 := st1.out.set 0 (.int .i64 2) (by simp); clear st1; clear st0) | (go_at_call 65; refine (qp.out _).mono ?_; rintro e w' ⟨rfl, hw'⟩; rw [hw']; clear hw' w'))
    exact ⟨rfl, rfl, ⟨_, hRR⟩, st2.out.b.trans hBB⟩
 | false =>
  simp only [hF, Bool.false_eq_true, if_false] at hne ⊢
  cases hV : Gr.isT [118, 97, 108] ts with
  | false =>
   rw [Gr.need, if_neg (by rw [hV]; simp)]
   clear hne ihT ihE hhd
   go_enter Tryz.func135, Tryz.ntmps135
   go_wp2_with (first | (go_at_call 17; refine (gr_need_no _ B S ts st1.out.r ⟨#[118, 97, 108]⟩ hV).mono ?_; rintro e w2 ⟨rfl, hRR, hBB⟩) | (go_at_call 15; refine (st0.out.tkF ⟨#[102, 117, 110]⟩ hF).mono ?_; rintro e w1 ⟨rfl, st1⟩; clear st0) | (go_at_call 65; refine (qp.out _).mono ?_; rintro e w' ⟨rfl, hw'⟩; rw [hw']; clear hw' w'))
   exact ⟨rfl, rfl, ⟨_, hRR⟩, st1.out.b.trans hBB⟩
  | true =>
   rw [Gr.need, if_pos hV] at hne ⊢
   by_cases h1 : Gr.kd ts.tail = 1
   · rw [Gr.name, if_pos h1] at hne ⊢
     have HS1 : Hid ((Gr.hd ts.tail).size ≤ maxLen) := hhd _ (fun t ht => List.mem_of_mem_tail ht)
     clear hhd
     unfold Gr.decR at hne ⊢
     cases hC : Gr.isT [58] ts.tail.tail with
     | false =>
      simp only [hC, Bool.false_eq_true, if_false] at hne ⊢
      unfold Gr.decE at hne ⊢
      cases hE : Gr.isT [61] ts.tail.tail with
      | false =>
       rw [Gr.need, if_neg (by rw [hE]; simp)]
       clear hne ihT ihE
       go_enter Tryz.func135, Tryz.ntmps135
       go_wp2_with (first | (go_at_call 17; refine (gr_need_no _ B S ts.tail.tail st5.out.r ⟨#[61]⟩ hE).mono ?_; rintro e w6 ⟨rfl, hRR, hBB⟩) | (go_at_call 15; refine (st4.out.tkF ⟨#[58]⟩ hC).mono ?_; rintro e w5 ⟨rfl, st5⟩; clear st4) | (go_at_call 137; refine (st2.out.low h1).mono ?_; rintro e w3 ⟨rfl, st3⟩; obtain ⟨cj3, zj3⟩ := st3.out.l.ej 2 _ rfl; have st4 := st3.out.set 2 (.string (Gr.hd ts.tail)) (by simp); clear st3; clear st2) | (go_at_call 17; refine (st1.out.nd ⟨#[118, 97, 108]⟩ hV).mono ?_; rintro e w2 ⟨rfl, st2⟩; clear st1) | (go_at_call 15; refine (st0.out.tkF ⟨#[102, 117, 110]⟩ hF).mono ?_; rintro e w1 ⟨rfl, st1⟩; clear st0) | (go_at_call 65; refine (qp.out _).mono ?_; rintro e w' ⟨rfl, hw'⟩; rw [hw']; clear hw' w'))
       exact ⟨rfl, rfl, ⟨_, hRR⟩, st5.out.b.trans hBB⟩
      | true =>
       rw [Gr.need, if_pos hE] at hne ⊢
       cases hG : Gr.g f .exp ts.tail.tail.tail with
       | out => rw [hG] at hne; exact absurd rfl hne
       | bad r3 c =>
        have qE : Hid (∀ W, Rd W B S ts.tail.tail.tail → Calls Tryz.prog 8 #[.pointer (some ⟨B, 0, none⟩)] W (Gr.Ans B S 2 W (.bad r3 c))) := fun W hW => by rw [← hG]; exact ihE W B S ts.tail.tail.tail hW (by rw [hG]; simp)
        clear hne hG ihT ihE
        go_enter Tryz.func135, Tryz.ntmps135
        go_wp2_with (first | (go_at_call 8; refine (qE.out _ st6.out.r).mono ?_; rintro e w7 ⟨rfl, hRR, hBB⟩) | (go_at_call 17; refine (st5.out.nd ⟨#[61]⟩ hE).mono ?_; rintro e w6 ⟨rfl, st6⟩; clear st5) | (go_at_call 15; refine (st4.out.tkF ⟨#[58]⟩ hC).mono ?_; rintro e w5 ⟨rfl, st5⟩; clear st4) | (go_at_call 137; refine (st2.out.low h1).mono ?_; rintro e w3 ⟨rfl, st3⟩; obtain ⟨cj3, zj3⟩ := st3.out.l.ej 2 _ rfl; have st4 := st3.out.set 2 (.string (Gr.hd ts.tail)) (by simp); clear st3; clear st2) | (go_at_call 17; refine (st1.out.nd ⟨#[118, 97, 108]⟩ hV).mono ?_; rintro e w2 ⟨rfl, st2⟩; clear st1) | (go_at_call 15; refine (st0.out.tkF ⟨#[102, 117, 110]⟩ hF).mono ?_; rintro e w1 ⟨rfl, st1⟩; clear st0) | (go_at_call 65; refine (qp.out _).mono ?_; rintro e w' ⟨rfl, hw'⟩; rw [hw']; clear hw' w'))
        exact ⟨rfl, rfl, hRR, st6.out.b.trans hBB⟩
       | ok d r3 =>
        have qE : Hid (∀ W, Rd W B S ts.tail.tail.tail → Calls Tryz.prog 8 #[.pointer (some ⟨B, 0, none⟩)] W (Gr.Ans B S 2 W (.ok d r3))) := fun W hW => by rw [← hG]; exact ihE W B S ts.tail.tail.tail hW (by rw [hG]; simp)
        simp only [hG, Gr.Res.bind]
        clear hne hG ihT ihE
        go_enter Tryz.func135, Tryz.ntmps135
        go_wp2_with (first | (go_at_call 8; refine (qE.out _ st6.out.r).mono ?_; rintro e w7 ⟨⟨vsz, nz, rfl, ha0⟩, hRR, hBB⟩; obtain ⟨zi, zj, zk, za, zn, zc, zd0, zm0, ze0, zd1, zm1, ze1, zd2, zm2, ze2, zd3, zm3, ze3, rfl⟩ := ha0.exp_form; have st7 := st6.out.addAt hRR hBB ha0; have st8 := st7.out.sl1 (st7.out.p.2) 28 w7.heap.size rfl rfl; clear st7; obtain ⟨cj8, zj8⟩ := st8.out.l.ej 5 _ rfl; have st9 := st8.out.set 5 (.slice (some ⟨w7.heap.size, 0, none⟩) 1 1) (by simp); clear st8; obtain ⟨⟨k0, k1, k2, k3, k4, k5, k6, k7, k8⟩, z0, z1, z2, z3, z4, z5, z6, z7, z8⟩ := st9.out.p.1.1.e9; obtain ⟨⟨lk0, lk1, lk2, lk3, lk4, lk5, lk6, lk7, lk8⟩, lz0, lz1, lz2, lz3, lz4, lz5, lz6, lz7, lz8⟩ := st9.out.l.e9; clear hRR hBB ha0 st6) | (go_at_call 17; refine (st5.out.nd ⟨#[61]⟩ hE).mono ?_; rintro e w6 ⟨rfl, st6⟩; clear st5) | (go_at_call 15; refine (st4.out.tkF ⟨#[58]⟩ hC).mono ?_; rintro e w5 ⟨rfl, st5⟩; clear st4) | (go_at_call 137; refine (st2.out.low h1).mono ?_; rintro e w3 ⟨rfl, st3⟩; obtain ⟨cj3, zj3⟩ := st3.out.l.ej 2 _ rfl; have st4 := st3.out.set 2 (.string (Gr.hd ts.tail)) (by simp); clear st3; clear st2) | (go_at_call 17; refine (st1.out.nd ⟨#[118, 97, 108]⟩ hV).mono ?_; rintro e w2 ⟨rfl, st2⟩; clear st1) | (go_at_call 15; refine (st0.out.tkF ⟨#[102, 117, 110]⟩ hF).mono ?_; rintro e w1 ⟨rfl, st1⟩; clear st0) | (go_at_call 65; refine (qp.out _).mono ?_; rintro e w' ⟨rfl, hw'⟩; rw [hw']; clear hw' w'))
        refine bodyPost_ret (v := .agg #[.int .i64 1, .int .i64 P, .string (Gr.hd ts.tail), .slice none 0 0, .slice none 0 0, .slice (some ⟨w7.heap.size, 0, none⟩) 1 1, .slice none 0 0, .slice none 0 0, .slice none 0 0]) (by rw [results_cell1 (fn := Tryz.f135) (p := 2) (ty := 96) (by kernel_rfl)]; simp [go_sem, k0, k1, k2, k3, k4, k5, k6, k7, k8]) rfl ?_
        exact st9.out.ans (by simp only [sv]) (At.dec_mk (n := nz) (by decide) HP.out HS1.out (Tx.none0 ..) (fun x hx => by cases hx) (Nat.zero_le _) (AtL.none0 ..) (st9.out.p.2) (AtL.none0 ..) (AtL.none0 ..) (AtL.none0 ..))
     | true =>
      simp only [hC, if_true] at hne ⊢
      cases hT : Gr.g f .ty ts.tail.tail.tail with
      | out => rw [hT] at hne; exact absurd rfl hne
      | bad r2 c =>
       have qT : Hid (∀ W, Rd W B S ts.tail.tail.tail → Calls Tryz.prog 23 #[.pointer (some ⟨B, 0, none⟩)] W (Gr.Ans B S 0 W (.bad r2 c))) := fun W hW => by rw [← hT]; exact ihT W B S ts.tail.tail.tail hW (by rw [hT]; simp)
       clear hne hT ihT ihE
       go_enter Tryz.func135, Tryz.ntmps135
       go_wp2_with (first | (go_at_call 23; refine (qT.out _ st5.out.r).mono ?_; rintro e w6 ⟨rfl, hRR, hBB⟩) | (go_at_call 15; refine (st4.out.tkT ⟨#[58]⟩ hC).mono ?_; rintro e w5 ⟨rfl, st5⟩; clear st4) | (go_at_call 137; refine (st2.out.low h1).mono ?_; rintro e w3 ⟨rfl, st3⟩; obtain ⟨cj3, zj3⟩ := st3.out.l.ej 2 _ rfl; have st4 := st3.out.set 2 (.string (Gr.hd ts.tail)) (by simp); clear st3; clear st2) | (go_at_call 17; refine (st1.out.nd ⟨#[118, 97, 108]⟩ hV).mono ?_; rintro e w2 ⟨rfl, st2⟩; clear st1) | (go_at_call 15; refine (st0.out.tkF ⟨#[102, 117, 110]⟩ hF).mono ?_; rintro e w1 ⟨rfl, st1⟩; clear st0) | (go_at_call 65; refine (qp.out _).mono ?_; rintro e w' ⟨rfl, hw'⟩; rw [hw']; clear hw' w'))
       exact ⟨rfl, rfl, hRR, st5.out.b.trans hBB⟩
      | ok t r2 =>
       have qT : Hid (∀ W, Rd W B S ts.tail.tail.tail → Calls Tryz.prog 23 #[.pointer (some ⟨B, 0, none⟩)] W (Gr.Ans B S 0 W (.ok t r2))) := fun W hW => by rw [← hT]; exact ihT W B S ts.tail.tail.tail hW (by rw [hT]; simp)
       simp only [hT, Gr.Res.bind] at hne ⊢
       clear hT
       unfold Gr.decE at hne ⊢
       cases hE : Gr.isT [61] r2 with
       | false =>
        rw [Gr.need, if_neg (by rw [hE]; simp)]
        clear hne ihT ihE
        go_enter Tryz.func135, Tryz.ntmps135
        go_wp2_with (first | (go_at_call 17; refine (gr_need_no _ B S r2 st8.out.r ⟨#[61]⟩ hE).mono ?_; rintro e w9 ⟨rfl, hRR, hBB⟩) | (go_at_call 23; refine (qT.out _ st5.out.r).mono ?_; rintro e w6 ⟨⟨vsy, ny, rfl, ha0⟩, hRR, hBB⟩; obtain ⟨yi, ys, ya, yn, yc, yd, ym, ye, rfl⟩ := ha0.ty_form; have st6 := st5.out.addAt hRR hBB ha0; have st7 := st6.out.sl1 (st6.out.p.2) 41 w6.heap.size rfl rfl; clear st6; obtain ⟨cj7, zj7⟩ := st7.out.l.ej 4 _ rfl; have st8 := st7.out.set 4 (.slice (some ⟨w6.heap.size, 0, none⟩) 1 1) (by simp); clear st7; clear hRR hBB ha0 st5) | (go_at_call 15; refine (st4.out.tkT ⟨#[58]⟩ hC).mono ?_; rintro e w5 ⟨rfl, st5⟩; clear st4) | (go_at_call 137; refine (st2.out.low h1).mono ?_; rintro e w3 ⟨rfl, st3⟩; obtain ⟨cj3, zj3⟩ := st3.out.l.ej 2 _ rfl; have st4 := st3.out.set 2 (.string (Gr.hd ts.tail)) (by simp); clear st3; clear st2) | (go_at_call 17; refine (st1.out.nd ⟨#[118, 97, 108]⟩ hV).mono ?_; rintro e w2 ⟨rfl, st2⟩; clear st1) | (go_at_call 15; refine (st0.out.tkF ⟨#[102, 117, 110]⟩ hF).mono ?_; rintro e w1 ⟨rfl, st1⟩; clear st0) | (go_at_call 65; refine (qp.out _).mono ?_; rintro e w' ⟨rfl, hw'⟩; rw [hw']; clear hw' w'))
        exact ⟨rfl, rfl, ⟨_, hRR⟩, st8.out.b.trans hBB⟩
       | true =>
        rw [Gr.need, if_pos hE] at hne ⊢
        cases hG : Gr.g f .exp r2.tail with
        | out => rw [hG] at hne; exact absurd rfl hne
        | bad r3 c =>
         have qE : Hid (∀ W, Rd W B S r2.tail → Calls Tryz.prog 8 #[.pointer (some ⟨B, 0, none⟩)] W (Gr.Ans B S 2 W (.bad r3 c))) := fun W hW => by rw [← hG]; exact ihE W B S r2.tail hW (by rw [hG]; simp)
         clear hne hG ihT ihE
         go_enter Tryz.func135, Tryz.ntmps135
         go_wp2_with (first | (go_at_call 8; refine (qE.out _ st9.out.r).mono ?_; rintro e w10 ⟨rfl, hRR, hBB⟩) | (go_at_call 17; refine (st8.out.nd ⟨#[61]⟩ hE).mono ?_; rintro e w9 ⟨rfl, st9⟩; clear st8) | (go_at_call 23; refine (qT.out _ st5.out.r).mono ?_; rintro e w6 ⟨⟨vsy, ny, rfl, ha0⟩, hRR, hBB⟩; obtain ⟨yi, ys, ya, yn, yc, yd, ym, ye, rfl⟩ := ha0.ty_form; have st6 := st5.out.addAt hRR hBB ha0; have st7 := st6.out.sl1 (st6.out.p.2) 41 w6.heap.size rfl rfl; clear st6; obtain ⟨cj7, zj7⟩ := st7.out.l.ej 4 _ rfl; have st8 := st7.out.set 4 (.slice (some ⟨w6.heap.size, 0, none⟩) 1 1) (by simp); clear st7; clear hRR hBB ha0 st5) | (go_at_call 15; refine (st4.out.tkT ⟨#[58]⟩ hC).mono ?_; rintro e w5 ⟨rfl, st5⟩; clear st4) | (go_at_call 137; refine (st2.out.low h1).mono ?_; rintro e w3 ⟨rfl, st3⟩; obtain ⟨cj3, zj3⟩ := st3.out.l.ej 2 _ rfl; have st4 := st3.out.set 2 (.string (Gr.hd ts.tail)) (by simp); clear st3; clear st2) | (go_at_call 17; refine (st1.out.nd ⟨#[118, 97, 108]⟩ hV).mono ?_; rintro e w2 ⟨rfl, st2⟩; clear st1) | (go_at_call 15; refine (st0.out.tkF ⟨#[102, 117, 110]⟩ hF).mono ?_; rintro e w1 ⟨rfl, st1⟩; clear st0) | (go_at_call 65; refine (qp.out _).mono ?_; rintro e w' ⟨rfl, hw'⟩; rw [hw']; clear hw' w'))
         exact ⟨rfl, rfl, hRR, st9.out.b.trans hBB⟩
        | ok d r3 =>
         have qE : Hid (∀ W, Rd W B S r2.tail → Calls Tryz.prog 8 #[.pointer (some ⟨B, 0, none⟩)] W (Gr.Ans B S 2 W (.ok d r3))) := fun W hW => by rw [← hG]; exact ihE W B S r2.tail hW (by rw [hG]; simp)
         simp only [hG, Gr.Res.bind]
         clear hne hG ihT ihE
         go_enter Tryz.func135, Tryz.ntmps135
         go_wp2_with (first | (go_at_call 8; refine (qE.out _ st9.out.r).mono ?_; rintro e w10 ⟨⟨vsz, nz, rfl, ha0⟩, hRR, hBB⟩; obtain ⟨zi, zj, zk, za, zn, zc, zd0, zm0, ze0, zd1, zm1, ze1, zd2, zm2, ze2, zd3, zm3, ze3, rfl⟩ := ha0.exp_form; have st10 := st9.out.addAt hRR hBB ha0; have st11 := st10.out.sl1 (st10.out.p.2) 28 w10.heap.size rfl rfl; clear st10; obtain ⟨cj11, zj11⟩ := st11.out.l.ej 5 _ rfl; have st12 := st11.out.set 5 (.slice (some ⟨w10.heap.size, 0, none⟩) 1 1) (by simp); clear st11; obtain ⟨⟨k0, k1, k2, k3, k4, k5, k6, k7, k8⟩, z0, z1, z2, z3, z4, z5, z6, z7, z8⟩ := st12.out.p.1.1.1.1.e9; obtain ⟨⟨lk0, lk1, lk2, lk3, lk4, lk5, lk6, lk7, lk8⟩, lz0, lz1, lz2, lz3, lz4, lz5, lz6, lz7, lz8⟩ := st12.out.l.e9; clear hRR hBB ha0 st9) | (go_at_call 17; refine (st8.out.nd ⟨#[61]⟩ hE).mono ?_; rintro e w9 ⟨rfl, st9⟩; clear st8) | (go_at_call 23; refine (qT.out _ st5.out.r).mono ?_; rintro e w6 ⟨⟨vsy, ny, rfl, ha0⟩, hRR, hBB⟩; obtain ⟨yi, ys, ya, yn, yc, yd, ym, ye, rfl⟩ := ha0.ty_form; have st6 := st5.out.addAt hRR hBB ha0; have st7 := st6.out.sl1 (st6.out.p.2) 41 w6.heap.size rfl rfl; clear st6; obtain ⟨cj7, zj7⟩ := st7.out.l.ej 4 _ rfl; have st8 := st7.out.set 4 (.slice (some ⟨w6.heap.size, 0, none⟩) 1 1) (by simp); clear st7; clear hRR hBB ha0 st5) | (go_at_call 15; refine (st4.out.tkT ⟨#[58]⟩ hC).mono ?_; rintro e w5 ⟨rfl, st5⟩; clear st4) | (go_at_call 137; refine (st2.out.low h1).mono ?_; rintro e w3 ⟨rfl, st3⟩; obtain ⟨cj3, zj3⟩ := st3.out.l.ej 2 _ rfl; have st4 := st3.out.set 2 (.string (Gr.hd ts.tail)) (by simp); clear st3; clear st2) | (go_at_call 17; refine (st1.out.nd ⟨#[118, 97, 108]⟩ hV).mono ?_; rintro e w2 ⟨rfl, st2⟩; clear st1) | (go_at_call 15; refine (st0.out.tkF ⟨#[102, 117, 110]⟩ hF).mono ?_; rintro e w1 ⟨rfl, st1⟩; clear st0) | (go_at_call 65; refine (qp.out _).mono ?_; rintro e w' ⟨rfl, hw'⟩; rw [hw']; clear hw' w'))
         refine bodyPost_ret (v := .agg #[.int .i64 1, .int .i64 P, .string (Gr.hd ts.tail), .slice none 0 0, .slice (some ⟨w6.heap.size, 0, none⟩) 1 1, .slice (some ⟨w10.heap.size, 0, none⟩) 1 1, .slice none 0 0, .slice none 0 0, .slice none 0 0]) (by rw [results_cell1 (fn := Tryz.f135) (p := 2) (ty := 96) (by kernel_rfl)]; simp [go_sem, k0, k1, k2, k3, k4, k5, k6, k7, k8]) rfl ?_
         exact st12.out.ans (by simp only [sv]) (At.dec_mk (n := max ny nz) (by decide) HP.out HS1.out (Tx.none0 ..) (fun x hx => by cases hx) (Nat.zero_le _) (AtL.le (st12.out.p.1.1.2) (Nat.le_max_left ny nz)) (AtL.le (st12.out.p.2) (Nat.le_max_right ny nz)) (AtL.none0 ..) (AtL.none0 ..) (AtL.none0 ..))
   · rw [Gr.name, if_neg h1]
     clear hne ihT ihE hhd
     go_enter Tryz.func135, Tryz.ntmps135
     go_wp2_with (first | (go_at_call 137; refine (gr_low_no _ B S ts.tail st2.out.r h1).mono ?_; rintro e w3 ⟨rfl, hRR, hBB⟩) | (go_at_call 17; refine (st1.out.nd ⟨#[118, 97, 108]⟩ hV).mono ?_; rintro e w2 ⟨rfl, st2⟩; clear st1) | (go_at_call 15; refine (st0.out.tkF ⟨#[102, 117, 110]⟩ hF).mono ?_; rintro e w1 ⟨rfl, st1⟩; clear st0) | (go_at_call 65; refine (qp.out _).mono ?_; rintro e w' ⟨rfl, hw'⟩; rw [hw']; clear hw' w'))
     exact ⟨rfl, rfl, ⟨_, hRR⟩, st2.out.b.trans hBB⟩
end Go.Proofs.YtjebepnphoeiaabGreatDoor
