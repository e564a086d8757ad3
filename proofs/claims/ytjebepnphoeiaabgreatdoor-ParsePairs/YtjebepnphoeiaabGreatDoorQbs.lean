/- Pieces: GrBc. -/
import Derived.Deep.CutRange
import Derived.Deep.Cut
import Derived.Test.YtjebepnphoeiaabGreatDoorQbf
namespace Go.Proofs.YtjebepnphoeiaabGreatDoor
open Go.RowKit
set_option linter.unusedVariables false
set_option linter.unusedSimpArgs false

theorem gr_info_pat : (Tryz.prog.info? 52).map (fun i => (i.zero, i.size, i.bytes)) = some (some (.agg #[.int .i64 0, .string ⟨#[]⟩, .slice none 0 0, .int .i64 0, .slice none 0 0]), 5, 80) := by kernel_rfl
theorem gr_info_exp : (Tryz.prog.info? 28).map (fun i => (i.zero, i.size, i.bytes)) = some (some (.agg #[.int .i64 0, .int .i64 0, .int .i64 0, .slice none 0 0, .slice none 0 0, .slice none 0 0, .slice none 0 0, .slice none 0 0]), 8, 144) := by kernel_rfl
theorem Gr.case_if (b : Bool) (f : Nat) (nt : Gr.Nt) (x y : Gr.Ts) : (if b = true then Gr.g f nt x else Gr.g f nt y) = Gr.g f nt (bif b then x else y) := by cases b <;> rfl
def Gr.CaseAt (R : Gr.Res) (f : Nat) (more : Bool) (k : Nat) (ps ks : List Nd) (us : Gr.Ts) : Prop := k ≤ f ∧ if more = true then R = Gr.g k (.caseGo ps ks) us else R = Gr.need [101, 110, 100] us fun r4 => .ok (Gr.expN 12 0 0 [] ps ks [] []) r4
theorem Gr.CaseAt.next {R : Gr.Res} {f k : Nat} {ps ks : List Nd} {r3 : Gr.Ts} {b : Bool} (hk : k ≤ f) (h : R = if Gr.isT [124] r3 = true then Gr.g k (.caseGo ps ks) r3.tail else Gr.need [101, 110, 100] r3 fun r4 => .ok (Gr.expN 12 0 0 [] ps ks [] []) r4) (hb : Gr.isT [124] r3 = b) : Gr.CaseAt R f b k ps ks (bif b then r3.tail else r3) := by
 subst hb
 refine ⟨hk, ?_⟩
 rw [h]
 cases Gr.isT [124] r3 <;> rfl
theorem Gr.tail_len (b : Bool) (r : Gr.Ts) : (bif b then r.tail else r).length ≤ r.length := by cases b <;> simp
theorem Stt.tk {w W : World} {B S L : Nat} {V : List Value} {P : World → Prop} {ts : Gr.Ts} (h : Stt w B S L V P ts W) (x : ByteArray) (b : Bool) (hb : Gr.isT x.data.toList ts = b) : Calls Tryz.prog 15 #[.pointer (some ⟨B, 0, none⟩), .string x] W fun e W' => e = .returned (.bool b) ∧ Hid (Stt w B S L V P (bif b then ts.tail else ts) W') :=
 (gr_take W B S ts h.r x b hb).mono fun e W' ⟨he, hr, hb⟩ => ⟨he, h.next hr hb⟩
theorem Stt.case0 {w W W' : World} {B S n : Nat} {Z vs V : List Value} {nd : Nd} {ts r : Gr.Ts} (h : Stt w B S B [] (fun X => Bx X w.heap.size Z) ts W) (hz : Z ≠ []) (hr : Rd W' B S r) (hb : Bes B W W') (ha : At W' (Ge W.heap.size) n 2 vs nd) (hs : vs.length = Nd.size 2) (hV : V ≠ []) :
  Hid (Stt w B S (W'.heap.size + 1) V (fun X => Bx X w.heap.size Z ∧ Nr X (w.heap.size + 1) (W'.heap.size + 1) 52 1 (.slice none 0 0) [] 28 2 (.slice (some ⟨W'.heap.size, 0, none⟩) 1 1) [nd] n) r ((W'.alloc (.cells vs.toArray 28)).alloc (.cells V.toArray 28))) := by
 have h1 := (h.next hr hb).out
 have hlt := h.lt
 have hsz := h1.sz
 have hrl := hr.lt
 have hS : Stab B (W'.heap.size + 1) (fun X => Bx X w.heap.size Z ∧ Nr X (w.heap.size + 1) (W'.heap.size + 1) 52 1 (.slice none 0 0) [] 28 2 (.slice (some ⟨W'.heap.size, 0, none⟩) 1 1) [nd] n) := (Stab.bx hz (by omega) (by omega)).and (Stab.nr (by omega))
 exact ⟨(hr.alloc _).alloc _, (h1.b.alloc _).alloc _, Bx.newAt _ _ _ (by simp), hS.1 _ _ (Bes.of_below (bl_new _ _)) ⟨(Stab.bx hz (by omega) (by omega) : Stab B B _).1 _ _ (Bes.of_below (bl_new _ _)) h1.p, Nr.one 52 28 1 (At.move (Keeps.refl _ _) (Ge.le h.sz) _ _ _ _ ha) hs hsz (by omega)⟩, .inr ⟨hV, by omega, by omega⟩, hS, hlt, by simp; omega⟩
set_option maxHeartbeats 12000000 in
set_option maxRecDepth 100000 in
theorem gr_restCase (f : Nat) (ihP : ∀ k, k ≤ f → Gr.Rule 16 .pat 1 k) (ihE : ∀ k, k ≤ f → Gr.Rule 8 .exp 2 k) : Gr.Rule 128 .case 2 (f + 1) := by
 intro w B S ts h hne
 rw [show Gr.g (f + 1) .case ts = ((Gr.g f .exp ts).bind fun e r => Gr.need [111, 102] r fun r2 => if Gr.isT [124] r2 = true then Gr.g f (.caseGo [] [e]) r2.tail else Gr.g f (.caseGo [] [e]) r2) from rfl] at hne ⊢
 have hlt := h.lt
 have st0 := Stt.init h [.int .i64 0, .int .i64 0, .int .i64 0, .slice none 0 0, .slice none 0 0, .slice none 0 0, .slice none 0 0, .slice none 0 0] 28 (by simp)
 have hlen := h.len
 clear h
 cases hG : Gr.g f .exp ts with
 | out => rw [hG] at hne; exact absurd rfl hne
 | bad r c =>
  have qG : Hid (∀ W, Rd W B S ts → Calls Tryz.prog 8 #[.pointer (some ⟨B, 0, none⟩)] W (Gr.Ans B S 2 W (.bad r c))) := fun W hW => by rw [← hG]; exact ihE f (Nat.le_refl _) W B S ts hW (by rw [hG]; simp)
  clear hne hG ihP ihE
  go_enter Tryz.func128, Tryz.ntmps128
  go_wp2_with (go_at_call 8; refine (qG.out _ st0.out.r).mono ?_; rintro e w1 ⟨rfl, hRR, hBB⟩)
  exact ⟨rfl, rfl, hRR, st0.out.b.trans hBB⟩
 | ok e0 r =>
  have hle := Gr.ok_len hG
  have qG : Hid (∀ W, Rd W B S ts → Calls Tryz.prog 8 #[.pointer (some ⟨B, 0, none⟩)] W (Gr.Ans B S 2 W (.ok e0 r))) := fun W hW => by rw [← hG]; exact ihE f (Nat.le_refl _) W B S ts hW (by rw [hG]; simp)
  simp only [hG, Gr.Res.bind] at hne ⊢
  clear hG
  cases hO : Gr.isT [111, 102] r with
  | false =>
   rw [Gr.need, if_neg (by rw [hO]; simp)]
   clear hne ihP ihE
   go_enter Tryz.func128, Tryz.ntmps128
   go_wp2_with (first | (go_at_call 17; refine (gr_need_no _ B S r st1.out.r ⟨#[111, 102]⟩ hO).mono ?_; rintro e w2 ⟨rfl, hRR, hBB⟩) | (go_at_call 8; refine (qG.out _ st0.out.r).mono ?_; rintro e w1 ⟨⟨vsx, nx, rfl, ha0⟩, hRR, hBB⟩; obtain ⟨xi, xj, xk, xa, xn, xc, xd0, xm0, xe0, xd1, xm1, xe1, xd2, xm2, xe2, xd3, xm3, xe3, rfl⟩ := ha0.exp_form; have hsz1 : w.heap.size < w1.heap.size := Nat.lt_of_lt_of_le st0.out.sz hBB.size; have st1 := st0.out.case0 (V := [.int .i64 12, .int .i64 0, .int .i64 0, .slice none 0 0, .slice none 0 0, .slice (some ⟨w1.heap.size, 0, none⟩) 1 1, .slice none 0 0, .slice none 0 0]) (by simp) hRR hBB ha0 rfl (by simp); clear hRR hBB ha0 st0))
   exact ⟨rfl, rfl, ⟨_, hRR⟩, st1.out.b.trans hBB⟩
  | true =>
   rw [Gr.need, if_pos hO] at hne ⊢
   obtain ⟨b0, hb0⟩ : ∃ b, Gr.isT [124] r.tail = b := ⟨_, rfl⟩
   rw [hb0, Gr.case_if] at hne ⊢
   obtain ⟨us0, hus0⟩ : ∃ u, (bif b0 then r.tail.tail else r.tail) = u := ⟨_, rfl⟩
   have HU0 : Hid ((bif b0 then r.tail.tail else r.tail) = us0) := hus0
   have hus : 1 + us0.length ≤ 1024 := by
    rw [← hus0]
    have h1 := Gr.tail_len b0 r.tail
    have h2 := Gr.isT_len hO
    have h3 : Gr.Nt.least .exp = 1 := rfl
    omega
   rw [hus0] at hne ⊢
   clear hus0
   obtain ⟨R, hR⟩ : ∃ R, Gr.g f (.caseGo [] [e0]) us0 = R := ⟨_, rfl⟩
   have HS : Hid (Gr.CaseAt R f true f [] [e0] us0) := ⟨Nat.le_refl _, by rw [if_pos rfl]; exact hR.symm⟩
   rw [hR] at hne ⊢
   have HN : Hid (R ≠ .out) := hne
   clear hne hR hle hlen
   go_enter Tryz.func128, Tryz.ntmps128
   go_wp2_with (first | (go_at_call 15; refine (st2.out.tk ⟨#[124]⟩ b0 hb0).mono ?_; rintro e w3 ⟨rfl, st3⟩; rw [HU0.out] at st3; clear st2) | (go_at_call 17; refine (st1.out.nd ⟨#[111, 102]⟩ hO).mono ?_; rintro e w2 ⟨rfl, st2⟩; clear st1) | (go_at_call 8; refine (qG.out _ st0.out.r).mono ?_; rintro e w1 ⟨⟨vsx, nx, rfl, ha0⟩, hRR, hBB⟩; obtain ⟨xi, xj, xk, xa, xn, xc, xd0, xm0, xe0, xd1, xm1, xe1, xd2, xm2, xe2, xd3, xm3, xe3, rfl⟩ := ha0.exp_form; have hsz1 : w.heap.size < w1.heap.size := Nat.lt_of_lt_of_le st0.out.sz hBB.size; have st1 := st0.out.case0 (V := [.int .i64 12, .int .i64 0, .int .i64 0, .slice none 0 0, .slice none 0 0, .slice (some ⟨w1.heap.size, 0, none⟩) 1 1, .slice none 0 0, .slice none 0 0]) (by simp) hRR hBB ha0 rfl (by simp); clear hRR hBB ha0 st0))
   obtain ⟨L, hL⟩ : ∃ L, w1.heap.size + 1 = L := ⟨_, rfl⟩
   rw [hL] at st3 ⊢
   go_loopw [4] (fun v4 wr => ∃ (more : Bool) (k n : Nat) (us : Gr.Ts) (ps ks : List Nd) (u v : Value), v4 = .bool more ∧ Hid (Gr.CaseAt R f more k ps ks us) ∧ (ps.length + us.length ≤ 1024 ∧ ks.length + us.length ≤ 1024) ∧ Hid (Stt w B S L [.int .i64 12, .int .i64 0, .int .i64 0, .slice none 0 0, u, v, .slice none 0 0, .slice none 0 0] (fun X => Bx X w.heap.size [.int .i64 0, .int .i64 0, .int .i64 0, .slice none 0 0, .slice none 0 0, .slice none 0 0, .slice none 0 0, .slice none 0 0] ∧ Nr X (w.heap.size + 1) L 52 1 (u) (ps) 28 2 (v) (ks) n) us wr)) (fun _ wr => Gr.left B wr)
   case atStart => exact ⟨true, f, nx, us0, [], [e0], .slice none 0 0, .slice (some ⟨w1.heap.size, 0, none⟩) 1 1, rfl, HS.out, ⟨by simp only [List.length_nil]; omega, by simp only [List.length_singleton]; omega⟩, st3⟩
   case round =>
    clear HS st3 qG hus hb0 HU0
    have HL : Hid (w1.heap.size + 1 = L) := hL
    have hlL : w.heap.size < L := by omega
    clear hL hsz1
    obtain ⟨more, k, n, us, ps, ks, u, v, rfl, hK, hlen, st0⟩ := hrel
    obtain ⟨hkf, hk0⟩ := hK.out
    obtain ⟨xs, hx1, -⟩ := st0.out.p.2.xu
    obtain ⟨sa, sc, hsf⟩ := own_shape hx1
    subst hsf
    obtain ⟨ys, hy1, -⟩ := st0.out.p.2.xv
    obtain ⟨ta, tc, htf⟩ := own_shape hy1
    subst htf
    have HRl : Hid (Gr.left B wr = us.length) := st0.out.r.left
    clear hx1 hy1 hK
    cases more with
    | false =>
     rw [if_neg (by simp)] at hk0
     cases hE : Gr.isT [101, 110, 100] us with
     | false =>
      have HK : Hid (R = .bad us 11) := by show _ = _; rw [hk0, Gr.need, if_neg (by rw [hE]; simp)]
      clear hk0 HN ihP ihE
      go_wp2_with (go_at_call 17; refine (gr_need_no _ B S us st0.out.r ⟨#[101, 110, 100]⟩ hE).mono ?_; rintro e w1 ⟨rfl, hRR, hBB⟩)
      exact ⟨rfl, by rw [HK.out]; exact ⟨rfl, ⟨_, hRR⟩, st0.out.b.trans hBB⟩⟩
     | true =>
      have HK : Hid (R = .ok (Gr.expN 12 0 0 [] ps ks [] []) us.tail) := by show _ = _; rw [hk0, Gr.need, if_pos hE]
      clear hk0 HN ihP ihE
      go_wp2_with (go_at_call 17; refine (st0.out.nd ⟨#[101, 110, 100]⟩ hE).mono ?_; rintro e w1 ⟨rfl, st1⟩; obtain ⟨⟨k0, k1, k2, k3, k4, k5, k6, k7⟩, z0, z1, z2, z3, z4, z5, z6, z7⟩ := st1.out.p.1.e8; have hlw := st1.out.sz; obtain ⟨⟨lk0, lk1, lk2, lk3, lk4, lk5, lk6, lk7⟩, lz0, lz1, lz2, lz3, lz4, lz5, lz6, lz7⟩ := st1.out.l.e8; clear st0)
      refine bodyPost_ret (v := .agg #[.int .i64 12, .int .i64 0, .int .i64 0, .slice none 0 0, .slice sa ps.length sc, .slice ta ks.length tc, .slice none 0 0, .slice none 0 0]) (by rw [results_cell1 (fn := Tryz.f128) (p := 2) (ty := 28) (by kernel_rfl)]; simp [go_sem, k0, k1, k2, k3, k4, k5, k6, k7]) rfl ?_
      rw [HK.out]
      exact st1.out.ans (by simp only [sv]) (At.exp_mk (n := n) (by decide) (by decide) (by decide) (Tx.none0 ..) (fun x hx => by cases hx) (Nat.zero_le _) (Nr.row (st1.out.p.2)) (Nr.row (st1.out.p.2).swap) (AtL.none0 ..) (AtL.none0 ..))
    | true =>
     rw [if_pos rfl] at hk0
     cases k with
     | zero => exact absurd hk0 HN.out
     | succ k =>
      rw [show Gr.g (k + 1) (.caseGo ps ks) us = ((Gr.g k .pat us).bind fun p r => Gr.need [61, 62] r fun r2 => (Gr.g k .exp r2).bind fun e r3 =>
        if Gr.isT [124] r3 = true then Gr.g k (.caseGo (ps ++ [p]) (ks ++ [e])) r3.tail
        else Gr.need [101, 110, 100] r3 fun r4 => .ok (Gr.expN 12 0 0 [] (ps ++ [p]) (ks ++ [e]) [] []) r4) from rfl] at hk0
      cases hG : Gr.g k .pat us with
      | out => rw [hG] at hk0; exact absurd hk0 HN.out
      | bad r2 c =>
       have HK : Hid (R = .bad r2 c) := by show _ = _; rw [hk0, hG]; rfl
       have qP : Hid (∀ W, Rd W B S us → Calls Tryz.prog 16 #[.pointer (some ⟨B, 0, none⟩)] W (Gr.Ans B S 1 W (.bad r2 c))) := fun W hW => by rw [← hG]; exact ihP k (by omega) W B S us hW (by rw [hG]; simp)
       clear hk0 HN ihP ihE hG
       go_upto_region 7 with fail
       have st1 := st0.out.drew
       clear st0
       refine wp_region_held_drew (S := fun wz => True) rfl (trivial) (fun hS => ?_)
       refine wpAnyH_take (i := 0) (v := ?_) rfl (by kernel_rfl) (by kernel_rfl) (by kernel_rfl) (fun _ _ _ h => h) (Or.inl ⟨by rfl, ?_⟩) hS ?_
       rotate_left
       · intro wz hz; go_simp; try with_reducible rfl
       try simp only [sx]
       refine wpAnyH_take (i := 2) (v := ?_) rfl (by kernel_rfl) (by kernel_rfl) (by kernel_rfl) (fun _ _ _ h => h) (Or.inl ⟨by rfl, ?_⟩) hS ?_
       rotate_left
       · intro wz hz; go_simp; try with_reducible rfl
       try simp only [sx]
       refine wpAnyH_ready (rs := [1, 3]) (by kernel_rfl) (by simp) (AllReadyH.cons rfl (fun K hK => ?_) (AllReadyH.cons rfl (fun K hK => ?_) AllReadyH.nil))
       · skip
         obtain ⟨⟨lk0, lk1, lk2, lk3, lk4, lk5, lk6, lk7⟩, lz0, lz1, lz2, lz3, lz4, lz5, lz6, lz7⟩ := st1.out.l.e8
         go_simp
         refine hK.out _ _ trivial (fun _ => ?_)
         clear hK K
         try simp only [sx]
         refine wpAnyH_ready (rs := [3]) (by kernel_rfl) (by simp) (AllReadyH.cons rfl (fun K hK => ?_) AllReadyH.nil)
         go_simp
         refine (qP.out _ st1.out.r).mono ?_
         rintro e ww ⟨rfl, hRR, hBB⟩
         exact ⟨rfl, by rw [HK.out]; exact ⟨rfl, hRR, st1.out.b.trans hBB⟩⟩
       · skip
         go_simp
         refine (qP.out _ st1.out.r).mono ?_
         rintro e ww ⟨rfl, hRR, hBB⟩
         exact ⟨rfl, by rw [HK.out]; exact ⟨rfl, hRR, st1.out.b.trans hBB⟩⟩
      | ok p r2 =>
       have hle := Gr.ok_len hG
       have qP : Hid (∀ W, Rd W B S us → Calls Tryz.prog 16 #[.pointer (some ⟨B, 0, none⟩)] W (Gr.Ans B S 1 W (.ok p r2))) := fun W hW => by rw [← hG]; exact ihP k (by omega) W B S us hW (by rw [hG]; simp)
       rw [hG] at hk0
       simp only [Gr.Res.bind] at hk0
       have hps : ps.length ≤ 1024 := by omega
       have hks : ks.length ≤ 1024 := by omega
       have HLe : Hid (ps.length + us.length ≤ 1024 ∧ ks.length + us.length ≤ 1024 ∧ r2.length + 1 ≤ us.length) := ⟨hlen.1, hlen.2, hle⟩
       obtain ⟨ip0, ipi, ipz0, ipz1, ipz2⟩ := info_parts gr_info_pat
       obtain ⟨ie0, iei, iez0, iez1, iez2⟩ := info_parts gr_info_exp
       clear hlen hle hG
       go_upto_region 7 with fail
       go_cut [4] from 13 to 31 (fun v4 wx => v4 = .bool true ∧ ∃ (n1 : Nat) (va : Option Addr) (vc : Nat), Hid (Stt w B S L [.int .i64 12, .int .i64 0, .int .i64 0, .slice none 0 0, .slice va (ps.length + 1) vc, .slice ta ks.length tc, .slice none 0 0, .slice none 0 0] (fun X => Bx X w.heap.size [.int .i64 0, .int .i64 0, .int .i64 0, .slice none 0 0, .slice none 0 0, .slice none 0 0, .slice none 0 0, .slice none 0 0] ∧ Nr X (w.heap.size + 1) L 52 1 (.slice va (ps.length + 1) vc) (ps ++ [p]) 28 2 (.slice ta ks.length tc) (ks) n1) r2 wx))
       case first =>
        clear hk0 HN ihP ihE
        have st1 := st0.out.drew
        clear st0
        refine wp_region_held_drew (S := fun wz => True) rfl (trivial) (fun hS => ?_)
        refine wpAnyH_take (i := 0) (v := ?_) rfl (by kernel_rfl) (by kernel_rfl) (by kernel_rfl) (fun _ _ _ h => h) (Or.inl ⟨by rfl, ?_⟩) hS ?_
        rotate_left
        · intro wz hz; go_simp; try with_reducible rfl
        try simp only [sx]
        refine wpAnyH_take (i := 2) (v := ?_) rfl (by kernel_rfl) (by kernel_rfl) (by kernel_rfl) (fun _ _ _ h => h) (Or.inl ⟨by rfl, ?_⟩) hS ?_
        rotate_left
        · intro wz hz; go_simp; try with_reducible rfl
        try simp only [sx]
        refine wpAnyH_ready (rs := [1, 3]) (by kernel_rfl) (by simp) (AllReadyH.cons rfl (fun K hK => ?_) (AllReadyH.cons rfl (fun K hK => ?_) AllReadyH.nil))
        · skip
          obtain ⟨⟨lk0, lk1, lk2, lk3, lk4, lk5, lk6, lk7⟩, lz0, lz1, lz2, lz3, lz4, lz5, lz6, lz7⟩ := st1.out.l.e8
          go_simp
          refine hK.out _ _ trivial (fun _ => ?_)
          clear hK K
          try simp only [sx]
          refine wpAnyH_ready (rs := [3]) (by kernel_rfl) (by simp) (AllReadyH.cons rfl (fun K hK => ?_) AllReadyH.nil)
          go_simp
          refine (qP.out _ st1.out.r).mono ?_
          rintro e w2 ⟨⟨vsy, ny, rfl, ha0⟩, hRR, hBB⟩
          obtain ⟨yi, ys, ya, yn, yc, yj, yd, ym, ye, rfl⟩ := ha0.pat_form
          have st2 := st1.out.addGz (st1.out.p.2) hRR hBB ha0
          clear hRR hBB ha0 st1
          refine hK.out _ _ trivial (fun _ => ?_)
          clear hK K
          try simp only [sx]
          refine wpAnyH_ready (rs := [4]) (by kernel_rfl) (by simp) (AllReadyH.cons rfl (fun K hK => ?_) AllReadyH.nil)
          go_simp
          obtain ⟨st3, hY⟩ := st2.out.made [.int .i64 yi, .string ys, .slice ya yn yc, .int .i64 yj, .slice yd ym ye] 52 (w2.heap.size) (by simp)
          clear st2
          refine hK.out _ _ trivial (fun _ => ?_)
          clear hK K
          try simp only [sx]
          refine wpAnyH_ready (rs := [5]) (by kernel_rfl) (by simp) (AllReadyH.cons rfl (fun K hK => ?_) AllReadyH.nil)
          obtain ⟨xs, hx1, hx2⟩ := (st3.out.p.1.2).xu
          refine step_append2 rfl (.tmp 17) (.tmp 20) 23 rfl (w.heap.size + 1) 52 ip0 (.agg #[.int .i64 0, .string ⟨#[]⟩, .slice none 0 0, .int .i64 0, .slice none 0 0]) 5 80 Tryz.underlying23 ipi ipz0 ipz1 ipz2 rfl (by decide) _ ps.length xs rfl hx1 ⟨w2.heap.size, 0, none⟩ 1 1 [.int .i64 yi, .string ys, .slice ya yn yc, .int .i64 yj, .slice yd ym ye] rfl rfl hY.out (by simp [Value.oneCell']) (by unfold maxLen; omega) (by omega) st3.out.sz ?_
          intro v' w9 hown' hgrow hfresh
          obtain ⟨va, vc, hvf⟩ := own_shape hown'
          subst hvf
          have st9 := st3.out.app (st3.out.p.1.1) (by simp) (st3.out.p.1.2) hx1 hx2 hown' hgrow hfresh (st3.out.p.2) rfl
          clear hown' hgrow hfresh hx1 hx2 st3 hY
          refine hK.out _ _ trivial (fun _ => ?_)
          clear hK K
          try simp only [sx]
          refine wpAnyH_take (i := 6) (v := ?_) rfl (by kernel_rfl) (by kernel_rfl) (by kernel_rfl) (fun _ _ _ h => h) (Or.inl ⟨by rfl, ?_⟩) hS ?_
          rotate_left
          · intro wz hz; go_simp; try with_reducible rfl
          try simp only [sx]
          refine wpAnyH_ready (rs := [7]) (by kernel_rfl) (by simp) (AllReadyH.cons rfl (fun K hK => ?_) AllReadyH.nil)
          obtain ⟨⟨mk0, mk1, mk2, mk3, mk4, mk5, mk6, mk7⟩, mz0, mz1, mz2, mz3, mz4, mz5, mz6, mz7⟩ := st9.out.l.e8
          go_simp
          refine hK.out _ _ trivial (fun _ => ?_)
          clear hK K
          try simp only [sx]
          refine wpAnyH_done (by kernel_rfl) ?_ _
          have st10 := st9.out.set 4 (.slice va (ps.length + 1) vc) (by simp)
          go_wp2_with fail
          go_meet
          case rel => exact ⟨rfl, max n ny, va, vc, st10⟩
        · skip
          go_simp
          refine (qP.out _ st1.out.r).mono ?_
          rintro e w2 ⟨⟨vsy, ny, rfl, ha0⟩, hRR, hBB⟩
          obtain ⟨yi, ys, ya, yn, yc, yj, yd, ym, ye, rfl⟩ := ha0.pat_form
          have st2 := st1.out.addGz (st1.out.p.2) hRR hBB ha0
          clear hRR hBB ha0 st1
          refine hK.out _ _ trivial (fun _ => ?_)
          clear hK K
          try simp only [sx]
          refine wpAnyH_ready (rs := [1, 4]) (by kernel_rfl) (by simp) (AllReadyH.cons rfl (fun K hK => ?_) (AllReadyH.cons rfl (fun K hK => ?_) AllReadyH.nil))
          · skip
            obtain ⟨⟨lk0, lk1, lk2, lk3, lk4, lk5, lk6, lk7⟩, lz0, lz1, lz2, lz3, lz4, lz5, lz6, lz7⟩ := st2.out.l.e8
            go_simp
            refine hK.out _ _ trivial (fun _ => ?_)
            clear hK K
            try simp only [sx]
            refine wpAnyH_ready (rs := [4]) (by kernel_rfl) (by simp) (AllReadyH.cons rfl (fun K hK => ?_) AllReadyH.nil)
            go_simp
            obtain ⟨st3, hY⟩ := st2.out.made [.int .i64 yi, .string ys, .slice ya yn yc, .int .i64 yj, .slice yd ym ye] 52 (w2.heap.size) (by simp)
            clear st2
            refine hK.out _ _ trivial (fun _ => ?_)
            clear hK K
            try simp only [sx]
            refine wpAnyH_ready (rs := [5]) (by kernel_rfl) (by simp) (AllReadyH.cons rfl (fun K hK => ?_) AllReadyH.nil)
            obtain ⟨xs, hx1, hx2⟩ := (st3.out.p.1.2).xu
            refine step_append2 rfl (.tmp 17) (.tmp 20) 23 rfl (w.heap.size + 1) 52 ip0 (.agg #[.int .i64 0, .string ⟨#[]⟩, .slice none 0 0, .int .i64 0, .slice none 0 0]) 5 80 Tryz.underlying23 ipi ipz0 ipz1 ipz2 rfl (by decide) _ ps.length xs rfl hx1 ⟨w2.heap.size, 0, none⟩ 1 1 [.int .i64 yi, .string ys, .slice ya yn yc, .int .i64 yj, .slice yd ym ye] rfl rfl hY.out (by simp [Value.oneCell']) (by unfold maxLen; omega) (by omega) st3.out.sz ?_
            intro v' w9 hown' hgrow hfresh
            obtain ⟨va, vc, hvf⟩ := own_shape hown'
            subst hvf
            have st9 := st3.out.app (st3.out.p.1.1) (by simp) (st3.out.p.1.2) hx1 hx2 hown' hgrow hfresh (st3.out.p.2) rfl
            clear hown' hgrow hfresh hx1 hx2 st3 hY
            refine hK.out _ _ trivial (fun _ => ?_)
            clear hK K
            try simp only [sx]
            refine wpAnyH_take (i := 6) (v := ?_) rfl (by kernel_rfl) (by kernel_rfl) (by kernel_rfl) (fun _ _ _ h => h) (Or.inl ⟨by rfl, ?_⟩) hS ?_
            rotate_left
            · intro wz hz; go_simp; try with_reducible rfl
            try simp only [sx]
            refine wpAnyH_ready (rs := [7]) (by kernel_rfl) (by simp) (AllReadyH.cons rfl (fun K hK => ?_) AllReadyH.nil)
            obtain ⟨⟨mk0, mk1, mk2, mk3, mk4, mk5, mk6, mk7⟩, mz0, mz1, mz2, mz3, mz4, mz5, mz6, mz7⟩ := st9.out.l.e8
            go_simp
            refine hK.out _ _ trivial (fun _ => ?_)
            clear hK K
            try simp only [sx]
            refine wpAnyH_done (by kernel_rfl) ?_ _
            have st10 := st9.out.set 4 (.slice va (ps.length + 1) vc) (by simp)
            go_wp2_with fail
            go_meet
            case rel => exact ⟨rfl, max n ny, va, vc, st10⟩
          · skip
            go_simp
            obtain ⟨st3, hY⟩ := st2.out.made [.int .i64 yi, .string ys, .slice ya yn yc, .int .i64 yj, .slice yd ym ye] 52 (w2.heap.size) (by simp)
            clear st2
            refine hK.out _ _ trivial (fun _ => ?_)
            clear hK K
            try simp only [sx]
            refine wpAnyH_ready (rs := [1]) (by kernel_rfl) (by simp) (AllReadyH.cons rfl (fun K hK => ?_) AllReadyH.nil)
            obtain ⟨⟨lk0, lk1, lk2, lk3, lk4, lk5, lk6, lk7⟩, lz0, lz1, lz2, lz3, lz4, lz5, lz6, lz7⟩ := st3.out.l.e8
            go_simp
            refine hK.out _ _ trivial (fun _ => ?_)
            clear hK K
            try simp only [sx]
            refine wpAnyH_ready (rs := [5]) (by kernel_rfl) (by simp) (AllReadyH.cons rfl (fun K hK => ?_) AllReadyH.nil)
            obtain ⟨xs, hx1, hx2⟩ := (st3.out.p.1.2).xu
            refine step_append2 rfl (.tmp 17) (.tmp 20) 23 rfl (w.heap.size + 1) 52 ip0 (.agg #[.int .i64 0, .string ⟨#[]⟩, .slice none 0 0, .int .i64 0, .slice none 0 0]) 5 80 Tryz.underlying23 ipi ipz0 ipz1 ipz2 rfl (by decide) _ ps.length xs rfl hx1 ⟨w2.heap.size, 0, none⟩ 1 1 [.int .i64 yi, .string ys, .slice ya yn yc, .int .i64 yj, .slice yd ym ye] rfl rfl hY.out (by simp [Value.oneCell']) (by unfold maxLen; omega) (by omega) st3.out.sz ?_
            intro v' w9 hown' hgrow hfresh
            obtain ⟨va, vc, hvf⟩ := own_shape hown'
            subst hvf
            have st9 := st3.out.app (st3.out.p.1.1) (by simp) (st3.out.p.1.2) hx1 hx2 hown' hgrow hfresh (st3.out.p.2) rfl
            clear hown' hgrow hfresh hx1 hx2 st3 hY
            refine hK.out _ _ trivial (fun _ => ?_)
            clear hK K
            try simp only [sx]
            refine wpAnyH_take (i := 6) (v := ?_) rfl (by kernel_rfl) (by kernel_rfl) (by kernel_rfl) (fun _ _ _ h => h) (Or.inl ⟨by rfl, ?_⟩) hS ?_
            rotate_left
            · intro wz hz; go_simp; try with_reducible rfl
            try simp only [sx]
            refine wpAnyH_ready (rs := [7]) (by kernel_rfl) (by simp) (AllReadyH.cons rfl (fun K hK => ?_) AllReadyH.nil)
            obtain ⟨⟨mk0, mk1, mk2, mk3, mk4, mk5, mk6, mk7⟩, mz0, mz1, mz2, mz3, mz4, mz5, mz6, mz7⟩ := st9.out.l.e8
            go_simp
            refine hK.out _ _ trivial (fun _ => ?_)
            clear hK K
            try simp only [sx]
            refine wpAnyH_done (by kernel_rfl) ?_ _
            have st10 := st9.out.set 4 (.slice va (ps.length + 1) vc) (by simp)
            go_wp2_with fail
            go_meet
            case rel => exact ⟨rfl, max n ny, va, vc, st10⟩
       case rest =>
        clear st0 qP
        obtain ⟨rfl, n1, va, vc, st0⟩ := hcut
        cases hA : Gr.isT [61, 62] r2 with
        | false =>
         have HK : Hid (R = .bad r2 11) := by show _ = _; rw [hk0, Gr.need, if_neg (by rw [hA]; simp)]
         clear hk0 HN ihP ihE
         go_wp2_with (go_at_call 17; refine (gr_need_no _ B S r2 st0.out.r ⟨#[61, 62]⟩ hA).mono ?_; rintro e w1 ⟨rfl, hRR, hBB⟩)
         exact ⟨rfl, by rw [HK.out]; exact ⟨rfl, ⟨_, hRR⟩, st0.out.b.trans hBB⟩⟩
        | true =>
         rw [Gr.need, if_pos hA] at hk0
         have hat := Gr.isT_len hA
         cases hG : Gr.g k .exp r2.tail with
         | out => rw [hG] at hk0; exact absurd hk0 HN.out
         | bad r3 c =>
          have HK : Hid (R = .bad r3 c) := by show _ = _; rw [hk0, hG]; try rfl
          have qE : Hid (∀ W, Rd W B S r2.tail → Calls Tryz.prog 8 #[.pointer (some ⟨B, 0, none⟩)] W (Gr.Ans B S 2 W (.bad r3 c))) := fun W hW => by rw [← hG]; exact ihE k (by omega) W B S r2.tail hW (by rw [hG]; simp)
          clear hk0 HN ihP ihE hG
          go_wp2_with (go_at_call 17; refine (st0.out.nd ⟨#[61, 62]⟩ hA).mono ?_; rintro e w1 ⟨rfl, st1⟩; clear st0)
          have st2 := st1.out.drew
          clear st1
          refine wp_region_held_drew (S := fun wz => True) rfl (trivial) (fun hS => ?_)
          refine wpAnyH_take (i := 0) (v := ?_) rfl (by kernel_rfl) (by kernel_rfl) (by kernel_rfl) (fun _ _ _ h => h) (Or.inl ⟨by rfl, ?_⟩) hS ?_
          rotate_left
          · intro wz hz; go_simp; try with_reducible rfl
          try simp only [sx]
          refine wpAnyH_take (i := 2) (v := ?_) rfl (by kernel_rfl) (by kernel_rfl) (by kernel_rfl) (fun _ _ _ h => h) (Or.inl ⟨by rfl, ?_⟩) hS ?_
          rotate_left
          · intro wz hz; go_simp; try with_reducible rfl
          try simp only [sx]
          refine wpAnyH_ready (rs := [1, 3]) (by kernel_rfl) (by simp) (AllReadyH.cons rfl (fun K hK => ?_) (AllReadyH.cons rfl (fun K hK => ?_) AllReadyH.nil))
          · skip
            obtain ⟨⟨lk0, lk1, lk2, lk3, lk4, lk5, lk6, lk7⟩, lz0, lz1, lz2, lz3, lz4, lz5, lz6, lz7⟩ := st2.out.l.e8
            go_simp
            refine hK.out _ _ trivial (fun _ => ?_)
            clear hK K
            try simp only [sx]
            refine wpAnyH_ready (rs := [3]) (by kernel_rfl) (by simp) (AllReadyH.cons rfl (fun K hK => ?_) AllReadyH.nil)
            go_simp
            refine (qE.out _ st2.out.r).mono ?_
            rintro e ww ⟨rfl, hRR, hBB⟩
            exact ⟨rfl, by rw [HK.out]; exact ⟨rfl, hRR, st2.out.b.trans hBB⟩⟩
          · skip
            go_simp
            refine (qE.out _ st2.out.r).mono ?_
            rintro e ww ⟨rfl, hRR, hBB⟩
            exact ⟨rfl, by rw [HK.out]; exact ⟨rfl, hRR, st2.out.b.trans hBB⟩⟩
         | ok e r3 =>
          rw [hG] at hk0
          simp only [Gr.Res.bind] at hk0
          have HK : Hid (R = if Gr.isT [124] r3 = true then Gr.g k (.caseGo (ps ++ [p]) (ks ++ [e])) r3.tail else Gr.need [101, 110, 100] r3 fun r4 => .ok (Gr.expN 12 0 0 [] (ps ++ [p]) (ks ++ [e]) [] []) r4) := hk0
          have HL3 : Hid (r3.length + 1 ≤ r2.length) := by have h1 := Gr.ok_len hG; have h2 : Gr.Nt.least .exp = 1 := rfl; show _ ≤ _; omega
          obtain ⟨b3, hq3⟩ : ∃ b, Gr.isT [124] r3 = b := ⟨_, rfl⟩
          have qE : Hid (∀ W, Rd W B S r2.tail → Calls Tryz.prog 8 #[.pointer (some ⟨B, 0, none⟩)] W (Gr.Ans B S 2 W (.ok e r3))) := fun W hW => by rw [← hG]; exact ihE k (by omega) W B S r2.tail hW (by rw [hG]; simp)
          clear hk0 HN ihP ihE hG hat
          go_wp2_with (go_at_call 17; refine (st0.out.nd ⟨#[61, 62]⟩ hA).mono ?_; rintro e w1 ⟨rfl, st1⟩; clear st0)
          have st2 := st1.out.drew
          clear st1
          refine wp_region_held_drew (S := fun wz => True) rfl (trivial) (fun hS => ?_)
          refine wpAnyH_take (i := 0) (v := ?_) rfl (by kernel_rfl) (by kernel_rfl) (by kernel_rfl) (fun _ _ _ h => h) (Or.inl ⟨by rfl, ?_⟩) hS ?_
          rotate_left
          · intro wz hz; go_simp; try with_reducible rfl
          try simp only [sx]
          refine wpAnyH_take (i := 2) (v := ?_) rfl (by kernel_rfl) (by kernel_rfl) (by kernel_rfl) (fun _ _ _ h => h) (Or.inl ⟨by rfl, ?_⟩) hS ?_
          rotate_left
          · intro wz hz; go_simp; try with_reducible rfl
          try simp only [sx]
          refine wpAnyH_ready (rs := [1, 3]) (by kernel_rfl) (by simp) (AllReadyH.cons rfl (fun K hK => ?_) (AllReadyH.cons rfl (fun K hK => ?_) AllReadyH.nil))
          · skip
            obtain ⟨⟨lk0, lk1, lk2, lk3, lk4, lk5, lk6, lk7⟩, lz0, lz1, lz2, lz3, lz4, lz5, lz6, lz7⟩ := st2.out.l.e8
            go_simp
            refine hK.out _ _ trivial (fun _ => ?_)
            clear hK K
            try simp only [sx]
            refine wpAnyH_ready (rs := [3]) (by kernel_rfl) (by simp) (AllReadyH.cons rfl (fun K hK => ?_) AllReadyH.nil)
            go_simp
            refine (qE.out _ st2.out.r).mono ?_
            rintro e w3 ⟨⟨vsy, ny, rfl, ha0⟩, hRR, hBB⟩
            obtain ⟨yi, yj, yk, ya, yn, yc, yd0, ym0, ye0, yd1, ym1, ye1, yd2, ym2, ye2, yd3, ym3, ye3, rfl⟩ := ha0.exp_form
            have st3 := st2.out.addGz (st2.out.p.2) hRR hBB ha0
            clear hRR hBB ha0 st2
            refine hK.out _ _ trivial (fun _ => ?_)
            clear hK K
            try simp only [sx]
            refine wpAnyH_ready (rs := [4]) (by kernel_rfl) (by simp) (AllReadyH.cons rfl (fun K hK => ?_) AllReadyH.nil)
            go_simp
            obtain ⟨st4, hY⟩ := st3.out.made [.int .i64 yi, .int .i64 yj, .int .i64 yk, .slice ya yn yc, .slice yd0 ym0 ye0, .slice yd1 ym1 ye1, .slice yd2 ym2 ye2, .slice yd3 ym3 ye3] 28 (w3.heap.size) (by simp)
            clear st3
            refine hK.out _ _ trivial (fun _ => ?_)
            clear hK K
            try simp only [sx]
            refine wpAnyH_ready (rs := [5]) (by kernel_rfl) (by simp) (AllReadyH.cons rfl (fun K hK => ?_) AllReadyH.nil)
            obtain ⟨xs, hx1, hx2⟩ := (st4.out.p.1.2.swap).xu
            refine step_append2 rfl (.tmp 26) (.tmp 29) 24 rfl (w.heap.size + 1) 28 ie0 (.agg #[.int .i64 0, .int .i64 0, .int .i64 0, .slice none 0 0, .slice none 0 0, .slice none 0 0, .slice none 0 0, .slice none 0 0]) 8 144 Tryz.underlying24 iei iez0 iez1 iez2 rfl (by decide) _ ks.length xs rfl hx1 ⟨w3.heap.size, 0, none⟩ 1 1 [.int .i64 yi, .int .i64 yj, .int .i64 yk, .slice ya yn yc, .slice yd0 ym0 ye0, .slice yd1 ym1 ye1, .slice yd2 ym2 ye2, .slice yd3 ym3 ye3] rfl rfl hY.out (by simp [Value.oneCell']) (by unfold maxLen; omega) (by omega) st4.out.sz ?_
            intro v' w9 hown' hgrow hfresh
            obtain ⟨va2, vc2, hvf⟩ := own_shape hown'
            subst hvf
            have st9 := st4.out.appV (st4.out.p.1.1) (by simp) (st4.out.p.1.2) hx1 hx2 hown' hgrow hfresh (st4.out.p.2) rfl
            clear hown' hgrow hfresh hx1 hx2 st4 hY
            refine hK.out _ _ trivial (fun _ => ?_)
            clear hK K
            try simp only [sx]
            refine wpAnyH_take (i := 6) (v := ?_) rfl (by kernel_rfl) (by kernel_rfl) (by kernel_rfl) (fun _ _ _ h => h) (Or.inl ⟨by rfl, ?_⟩) hS ?_
            rotate_left
            · intro wz hz; go_simp; try with_reducible rfl
            try simp only [sx]
            refine wpAnyH_ready (rs := [7]) (by kernel_rfl) (by simp) (AllReadyH.cons rfl (fun K hK => ?_) AllReadyH.nil)
            obtain ⟨⟨mk0, mk1, mk2, mk3, mk4, mk5, mk6, mk7⟩, mz0, mz1, mz2, mz3, mz4, mz5, mz6, mz7⟩ := st9.out.l.e8
            go_simp
            refine hK.out _ _ trivial (fun _ => ?_)
            clear hK K
            try simp only [sx]
            refine wpAnyH_done (by kernel_rfl) ?_ _
            have st10 := st9.out.set 5 (.slice va2 (ks.length + 1) vc2) (by simp)
            clear st9
            go_wp2_with (go_at_call 15; refine (st10.out.tk ⟨#[124]⟩ b3 hq3).mono ?_; rintro e wE ⟨rfl, stE⟩; clear st10)
            go_roundw
            case rel =>
             refine ⟨b3, k, max n1 ny, (bif b3 then r3.tail else r3), ps ++ [p], ks ++ [e], .slice va (ps.length + 1) vc, .slice va2 (ks.length + 1) vc2, rfl, Gr.CaseAt.next (by omega) HK.out hq3, ?_, stE⟩
             have h1 := Gr.tail_len b3 r3
             have h2 := HLe.out
             have h3 := HL3.out
             rw [List.length_append, List.length_append]
             simp only [List.length_singleton]
             omega
            case measure =>
             rw [stE.out.r.left, HRl.out]
             have h1 := Gr.tail_len b3 r3
             have h2 := HLe.out
             have h3 := HL3.out
             omega
          · skip
            go_simp
            refine (qE.out _ st2.out.r).mono ?_
            rintro e w3 ⟨⟨vsy, ny, rfl, ha0⟩, hRR, hBB⟩
            obtain ⟨yi, yj, yk, ya, yn, yc, yd0, ym0, ye0, yd1, ym1, ye1, yd2, ym2, ye2, yd3, ym3, ye3, rfl⟩ := ha0.exp_form
            have st3 := st2.out.addGz (st2.out.p.2) hRR hBB ha0
            clear hRR hBB ha0 st2
            refine hK.out _ _ trivial (fun _ => ?_)
            clear hK K
            try simp only [sx]
            refine wpAnyH_ready (rs := [1, 4]) (by kernel_rfl) (by simp) (AllReadyH.cons rfl (fun K hK => ?_) (AllReadyH.cons rfl (fun K hK => ?_) AllReadyH.nil))
            · skip
              obtain ⟨⟨lk0, lk1, lk2, lk3, lk4, lk5, lk6, lk7⟩, lz0, lz1, lz2, lz3, lz4, lz5, lz6, lz7⟩ := st3.out.l.e8
              go_simp
              refine hK.out _ _ trivial (fun _ => ?_)
              clear hK K
              try simp only [sx]
              refine wpAnyH_ready (rs := [4]) (by kernel_rfl) (by simp) (AllReadyH.cons rfl (fun K hK => ?_) AllReadyH.nil)
              go_simp
              obtain ⟨st4, hY⟩ := st3.out.made [.int .i64 yi, .int .i64 yj, .int .i64 yk, .slice ya yn yc, .slice yd0 ym0 ye0, .slice yd1 ym1 ye1, .slice yd2 ym2 ye2, .slice yd3 ym3 ye3] 28 (w3.heap.size) (by simp)
              clear st3
              refine hK.out _ _ trivial (fun _ => ?_)
              clear hK K
              try simp only [sx]
              refine wpAnyH_ready (rs := [5]) (by kernel_rfl) (by simp) (AllReadyH.cons rfl (fun K hK => ?_) AllReadyH.nil)
              obtain ⟨xs, hx1, hx2⟩ := (st4.out.p.1.2.swap).xu
              refine step_append2 rfl (.tmp 26) (.tmp 29) 24 rfl (w.heap.size + 1) 28 ie0 (.agg #[.int .i64 0, .int .i64 0, .int .i64 0, .slice none 0 0, .slice none 0 0, .slice none 0 0, .slice none 0 0, .slice none 0 0]) 8 144 Tryz.underlying24 iei iez0 iez1 iez2 rfl (by decide) _ ks.length xs rfl hx1 ⟨w3.heap.size, 0, none⟩ 1 1 [.int .i64 yi, .int .i64 yj, .int .i64 yk, .slice ya yn yc, .slice yd0 ym0 ye0, .slice yd1 ym1 ye1, .slice yd2 ym2 ye2, .slice yd3 ym3 ye3] rfl rfl hY.out (by simp [Value.oneCell']) (by unfold maxLen; omega) (by omega) st4.out.sz ?_
              intro v' w9 hown' hgrow hfresh
              obtain ⟨va2, vc2, hvf⟩ := own_shape hown'
              subst hvf
              have st9 := st4.out.appV (st4.out.p.1.1) (by simp) (st4.out.p.1.2) hx1 hx2 hown' hgrow hfresh (st4.out.p.2) rfl
              clear hown' hgrow hfresh hx1 hx2 st4 hY
              refine hK.out _ _ trivial (fun _ => ?_)
              clear hK K
              try simp only [sx]
              refine wpAnyH_take (i := 6) (v := ?_) rfl (by kernel_rfl) (by kernel_rfl) (by kernel_rfl) (fun _ _ _ h => h) (Or.inl ⟨by rfl, ?_⟩) hS ?_
              rotate_left
              · intro wz hz; go_simp; try with_reducible rfl
              try simp only [sx]
              refine wpAnyH_ready (rs := [7]) (by kernel_rfl) (by simp) (AllReadyH.cons rfl (fun K hK => ?_) AllReadyH.nil)
              obtain ⟨⟨mk0, mk1, mk2, mk3, mk4, mk5, mk6, mk7⟩, mz0, mz1, mz2, mz3, mz4, mz5, mz6, mz7⟩ := st9.out.l.e8
              go_simp
              refine hK.out _ _ trivial (fun _ => ?_)
              clear hK K
              try simp only [sx]
              refine wpAnyH_done (by kernel_rfl) ?_ _
              have st10 := st9.out.set 5 (.slice va2 (ks.length + 1) vc2) (by simp)
              clear st9
              go_wp2_with (go_at_call 15; refine (st10.out.tk ⟨#[124]⟩ b3 hq3).mono ?_; rintro e wE ⟨rfl, stE⟩; clear st10)
              go_roundw
              case rel =>
               refine ⟨b3, k, max n1 ny, (bif b3 then r3.tail else r3), ps ++ [p], ks ++ [e], .slice va (ps.length + 1) vc, .slice va2 (ks.length + 1) vc2, rfl, Gr.CaseAt.next (by omega) HK.out hq3, ?_, stE⟩
               have h1 := Gr.tail_len b3 r3
               have h2 := HLe.out
               have h3 := HL3.out
               rw [List.length_append, List.length_append]
               simp only [List.length_singleton]
               omega
              case measure =>
               rw [stE.out.r.left, HRl.out]
               have h1 := Gr.tail_len b3 r3
               have h2 := HLe.out
               have h3 := HL3.out
               omega
            · skip
              go_simp
              obtain ⟨st4, hY⟩ := st3.out.made [.int .i64 yi, .int .i64 yj, .int .i64 yk, .slice ya yn yc, .slice yd0 ym0 ye0, .slice yd1 ym1 ye1, .slice yd2 ym2 ye2, .slice yd3 ym3 ye3] 28 (w3.heap.size) (by simp)
              clear st3
              refine hK.out _ _ trivial (fun _ => ?_)
              clear hK K
              try simp only [sx]
              refine wpAnyH_ready (rs := [1]) (by kernel_rfl) (by simp) (AllReadyH.cons rfl (fun K hK => ?_) AllReadyH.nil)
              obtain ⟨⟨lk0, lk1, lk2, lk3, lk4, lk5, lk6, lk7⟩, lz0, lz1, lz2, lz3, lz4, lz5, lz6, lz7⟩ := st4.out.l.e8
              go_simp
              refine hK.out _ _ trivial (fun _ => ?_)
              clear hK K
              try simp only [sx]
              refine wpAnyH_ready (rs := [5]) (by kernel_rfl) (by simp) (AllReadyH.cons rfl (fun K hK => ?_) AllReadyH.nil)
              obtain ⟨xs, hx1, hx2⟩ := (st4.out.p.1.2.swap).xu
              refine step_append2 rfl (.tmp 26) (.tmp 29) 24 rfl (w.heap.size + 1) 28 ie0 (.agg #[.int .i64 0, .int .i64 0, .int .i64 0, .slice none 0 0, .slice none 0 0, .slice none 0 0, .slice none 0 0, .slice none 0 0]) 8 144 Tryz.underlying24 iei iez0 iez1 iez2 rfl (by decide) _ ks.length xs rfl hx1 ⟨w3.heap.size, 0, none⟩ 1 1 [.int .i64 yi, .int .i64 yj, .int .i64 yk, .slice ya yn yc, .slice yd0 ym0 ye0, .slice yd1 ym1 ye1, .slice yd2 ym2 ye2, .slice yd3 ym3 ye3] rfl rfl hY.out (by simp [Value.oneCell']) (by unfold maxLen; omega) (by omega) st4.out.sz ?_
              intro v' w9 hown' hgrow hfresh
              obtain ⟨va2, vc2, hvf⟩ := own_shape hown'
              subst hvf
              have st9 := st4.out.appV (st4.out.p.1.1) (by simp) (st4.out.p.1.2) hx1 hx2 hown' hgrow hfresh (st4.out.p.2) rfl
              clear hown' hgrow hfresh hx1 hx2 st4 hY
              refine hK.out _ _ trivial (fun _ => ?_)
              clear hK K
              try simp only [sx]
              refine wpAnyH_take (i := 6) (v := ?_) rfl (by kernel_rfl) (by kernel_rfl) (by kernel_rfl) (fun _ _ _ h => h) (Or.inl ⟨by rfl, ?_⟩) hS ?_
              rotate_left
              · intro wz hz; go_simp; try with_reducible rfl
              try simp only [sx]
              refine wpAnyH_ready (rs := [7]) (by kernel_rfl) (by simp) (AllReadyH.cons rfl (fun K hK => ?_) AllReadyH.nil)
              obtain ⟨⟨mk0, mk1, mk2, mk3, mk4, mk5, mk6, mk7⟩, mz0, mz1, mz2, mz3, mz4, mz5, mz6, mz7⟩ := st9.out.l.e8
              go_simp
              refine hK.out _ _ trivial (fun _ => ?_)
              clear hK K
              try simp only [sx]
              refine wpAnyH_done (by kernel_rfl) ?_ _
              have st10 := st9.out.set 5 (.slice va2 (ks.length + 1) vc2) (by simp)
              clear st9
              go_wp2_with (go_at_call 15; refine (st10.out.tk ⟨#[124]⟩ b3 hq3).mono ?_; rintro e wE ⟨rfl, stE⟩; clear st10)
              go_roundw
              case rel =>
               refine ⟨b3, k, max n1 ny, (bif b3 then r3.tail else r3), ps ++ [p], ks ++ [e], .slice va (ps.length + 1) vc, .slice va2 (ks.length + 1) vc2, rfl, Gr.CaseAt.next (by omega) HK.out hq3, ?_, stE⟩
               have h1 := Gr.tail_len b3 r3
               have h2 := HLe.out
               have h3 := HL3.out
               rw [List.length_append, List.length_append]
               simp only [List.length_singleton]
               omega
              case measure =>
               rw [stE.out.r.left, HRl.out]
               have h1 := Gr.tail_len b3 r3
               have h2 := HLe.out
               have h3 := HL3.out
               omega
end Go.Proofs.YtjebepnphoeiaabGreatDoor
