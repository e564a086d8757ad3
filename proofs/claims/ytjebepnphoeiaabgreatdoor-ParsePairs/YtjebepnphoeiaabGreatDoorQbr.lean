/- Pieces: GrBl. -/
import Derived.Test.YtjebepnphoeiaabGreatDoorQbf
namespace Go.Proofs.YtjebepnphoeiaabGreatDoor
open Go.RowKit
set_option linter.unusedVariables false
set_option linter.unusedSimpArgs false

theorem gr_info_dec : (Tryz.prog.info? 96).map (fun i => (i.zero, i.size, i.bytes)) = some (some (.agg #[.int .i64 0, .int .i64 0, .string ⟨#[]⟩, .slice none 0 0, .slice none 0 0, .slice none 0 0, .slice none 0 0, .slice none 0 0, .slice none 0 0]), 9, 176) := by kernel_rfl
set_option maxHeartbeats 12000000 in
set_option maxRecDepth 100000 in
theorem gr_restLet (f : Nat) (ihD : ∀ k, k < f → Gr.Rule 135 .dec 3 k) (ihE : ∀ k, k < f → Gr.Rule 8 .exp 2 k) : Gr.Rule 127 (.letGo []) 2 f := by
 intro w B S ts h hne
 obtain ⟨i0, hi, hz0, hz1, hz2⟩ := info_parts gr_info_dec
 have hlt := h.lt
 have st0 := Stt.init2 h [.int .i64 0, .int .i64 0, .int .i64 0, .slice none 0 0, .slice none 0 0, .slice none 0 0, .slice none 0 0, .slice none 0 0] [.int .i64 10, .int .i64 0, .int .i64 0, .slice none 0 0, .slice none 0 0, .slice none 0 0, .slice none 0 0, .slice none 0 0] 28 (by simp) (by simp)
 have hlen := h.len
 have HN : Hid (Gr.g f (.letGo []) ts ≠ .out) := hne
 clear h hne
 go_enter Tryz.func127, Tryz.ntmps127
 go_wp2
 obtain ⟨L, hL⟩ : ∃ L, w.heap.size + 1 = L := ⟨_, rfl⟩
 rw [hL]
 go_loopw [5] (fun _ wr => ∃ (k n : Nat) (us : Gr.Ts) (ds : List Nd) (v : Value), Hid (k ≤ f ∧ Gr.g f (.letGo []) ts = Gr.g k (.letGo ds) us) ∧ ds.length + us.length ≤ 1024 ∧ Hid (Stt w B S L [.int .i64 10, .int .i64 0, .int .i64 0, .slice none 0 0, .slice none 0 0, .slice none 0 0, v, .slice none 0 0] (fun X => Bx X w.heap.size [.int .i64 0, .int .i64 0, .int .i64 0, .slice none 0 0, .slice none 0 0, .slice none 0 0, .slice none 0 0, .slice none 0 0] ∧ Nr X (w.heap.size + 1) L 96 3 (v) (ds) 96 3 (.slice none 0 0) [] n) us wr)) (fun _ wr => Gr.left B wr)
 case atStart =>
  subst hL
  exact ⟨f, 0, ts, [], .slice none 0 0, ⟨Nat.le_refl _, rfl⟩, by simpa using hlen, st0.out.more (Nr.nil ..) (Stab.nr (Nat.lt_succ_of_lt hlt))⟩
 case round =>
  have HL : Hid (w.heap.size + 1 = L) := hL
  have hlL : w.heap.size < L := by omega
  clear st0 hlen hL
  obtain ⟨k, n, us, ds, v, hK, hlen, st0⟩ := hrel
  obtain ⟨hkf, hk0⟩ := hK.out
  obtain ⟨xs, hx1, -⟩ := st0.out.p.2.xu
  obtain ⟨sa, sc, hsf⟩ := own_shape hx1
  subst hsf
  clear hx1
  have HRl : Hid (Gr.left B wr = us.length) := st0.out.r.left
  cases k with
  | zero => exact absurd hk0 HN.out
  | succ k =>
   rw [show Gr.g (k + 1) (.letGo ds) us = (if (Gr.isT [118, 97, 108] us || Gr.isT [102, 117, 110] us) = true then (Gr.g k .dec us).bind fun d r => Gr.g k (.letGo (ds ++ [d])) r
     else Gr.need [105, 110] us fun r => (Gr.g k .exp r).bind fun e r2 => Gr.need [101, 110, 100] r2 fun r3 => .ok (Gr.expN 10 0 0 [] [] [e] ds []) r3) from rfl] at hk0
   cases hV : Gr.isT [118, 97, 108] us with
   | true =>
    rw [hV] at hk0
    simp only [Bool.true_or, if_true] at hk0
    cases hG : Gr.g k .dec us with
    | out => rw [hG] at hk0; exact absurd hk0 HN.out
    | bad r2 c =>
     have HK : Hid (Gr.g f (.letGo []) ts = .bad r2 c) := by show _ = _; rw [hk0, hG]; rfl
     have qG : Hid (∀ W, Rd W B S us → Calls Tryz.prog 135 #[.pointer (some ⟨B, 0, none⟩)] W (Gr.Ans B S 3 W (.bad r2 c))) := fun W hW => by rw [← hG]; exact ihD k (by omega) W B S us hW (by rw [hG]; simp)
     clear hk0 hK HN ihD ihE hG
     go_wp2_with (go_at_call 33; refine (st0.out.is ⟨#[118, 97, 108]⟩ true hV).mono ?_; rintro e w1 ⟨rfl, st1⟩; clear st0)
     have st2 := st1.out.drew
     clear st1
     refine wp_region_held_drew (S := fun wz => True) rfl (trivial) (fun hS => ?_)
     refine wpAnyH_take (i := 0) (v := ?_) rfl (by kernel_rfl) (by kernel_rfl) (by kernel_rfl) (fun _ _ _ h => h) (Or.inl ⟨by rfl, ?_⟩) hS ?_
     rotate_left
     · intro wz hz; go_simp; try with_reducible rfl
     try simp only [sx]
     refine wpAnyH_take (i := 2) (v := ?_) rfl (by kernel_rfl) (by kernel_rfl) (by kernel_rfl) (fun _ _ _ h => h) (Or.inl ⟨by rfl, ?_⟩) hS ?_
     rotate_left
     · intro wz hz; go_simp; try with_reducible rfl
     try simp only [sx]
     refine wpAnyH_ready (rs := [1, 3]) (by kernel_rfl) (by simp) (AllReadyH.cons rfl (fun K hK => ?_) (AllReadyH.cons rfl (fun K hK => ?_) AllReadyH.nil))
     · skip
       obtain ⟨⟨lk0, lk1, lk2, lk3, lk4, lk5, lk6, lk7⟩, lz0, lz1, lz2, lz3, lz4, lz5, lz6, lz7⟩ := st2.out.l.e8
       go_simp
       refine hK.out _ _ trivial (fun _ => ?_)
       clear hK K
       try simp only [sx]
       refine wpAnyH_ready (rs := [3]) (by kernel_rfl) (by simp) (AllReadyH.cons rfl (fun K hK => ?_) AllReadyH.nil)
       go_simp
       refine (qG.out _ st2.out.r).mono ?_
       rintro e ww ⟨rfl, hRR, hBB⟩
       exact ⟨rfl, by rw [HK.out]; exact ⟨rfl, hRR, st2.out.b.trans hBB⟩⟩
     · skip
       go_simp
       refine (qG.out _ st2.out.r).mono ?_
       rintro e ww ⟨rfl, hRR, hBB⟩
       exact ⟨rfl, by rw [HK.out]; exact ⟨rfl, hRR, st2.out.b.trans hBB⟩⟩
    | ok d r2 =>
     have HK : Hid (Gr.g f (.letGo []) ts = Gr.g k (.letGo (ds ++ [d])) r2) := by show _ = _; rw [hk0, hG]; rfl
     have qG : Hid (∀ W, Rd W B S us → Calls Tryz.prog 135 #[.pointer (some ⟨B, 0, none⟩)] W (Gr.Ans B S 3 W (.ok d r2))) := fun W hW => by rw [← hG]; exact ihD k (by omega) W B S us hW (by rw [hG]; simp)
     have HLen : Hid (r2.length < us.length ∧ ds.length + us.length ≤ 1024) := by have h1 := Gr.ok_len hG; exact ⟨h1, hlen⟩
     have hds : ds.length ≤ 1024 := by omega
     clear hk0 hK HN ihD ihE hG hlen
     go_wp2_with (go_at_call 33; refine (st0.out.is ⟨#[118, 97, 108]⟩ true hV).mono ?_; rintro e w1 ⟨rfl, st1⟩; clear st0)
     have st2 := st1.out.drew
     clear st1
     refine wp_region_held_drew (S := fun wz => True) rfl (trivial) (fun hS => ?_)
     refine wpAnyH_take (i := 0) (v := ?_) rfl (by kernel_rfl) (by kernel_rfl) (by kernel_rfl) (fun _ _ _ h => h) (Or.inl ⟨by rfl, ?_⟩) hS ?_
     rotate_left
     · intro wz hz; go_simp; try with_reducible rfl
     try simp only [sx]
     refine wpAnyH_take (i := 2) (v := ?_) rfl (by kernel_rfl) (by kernel_rfl) (by kernel_rfl) (fun _ _ _ h => h) (Or.inl ⟨by rfl, ?_⟩) hS ?_
     rotate_left
     · intro wz hz; go_simp; try with_reducible rfl
     try simp only [sx]
     refine wpAnyH_ready (rs := [1, 3]) (by kernel_rfl) (by simp) (AllReadyH.cons rfl (fun K hK => ?_) (AllReadyH.cons rfl (fun K hK => ?_) AllReadyH.nil))
     · skip
       obtain ⟨⟨lk0, lk1, lk2, lk3, lk4, lk5, lk6, lk7⟩, lz0, lz1, lz2, lz3, lz4, lz5, lz6, lz7⟩ := st2.out.l.e8
       go_simp
       refine hK.out _ _ trivial (fun _ => ?_)
       clear hK K
       try simp only [sx]
       refine wpAnyH_ready (rs := [3]) (by kernel_rfl) (by simp) (AllReadyH.cons rfl (fun K hK => ?_) AllReadyH.nil)
       go_simp
       refine (qG.out _ st2.out.r).mono ?_
       rintro e w3 ⟨⟨vsy, ny, rfl, ha0⟩, hRR, hBB⟩
       obtain ⟨yi, yj, ys, ya, yn, yc, yd0, ym0, ye0, yd1, ym1, ye1, yd2, ym2, ye2, yd3, ym3, ye3, yd4, ym4, ye4, rfl⟩ := ha0.dec_form
       have st3 := st2.out.addGz (st2.out.p.2) hRR hBB ha0
       clear hRR hBB ha0 st2
       refine hK.out _ _ trivial (fun _ => ?_)
       clear hK K
       try simp only [sx]
       refine wpAnyH_ready (rs := [4]) (by kernel_rfl) (by simp) (AllReadyH.cons rfl (fun K hK => ?_) AllReadyH.nil)
       go_simp
       obtain ⟨st4, hY⟩ := st3.out.made [.int .i64 yi, .int .i64 yj, .string ys, .slice ya yn yc, .slice yd0 ym0 ye0, .slice yd1 ym1 ye1, .slice yd2 ym2 ye2, .slice yd3 ym3 ye3, .slice yd4 ym4 ye4] 96 (w3.heap.size) (by simp)
       clear st3
       refine hK.out _ _ trivial (fun _ => ?_)
       clear hK K
       try simp only [sx]
       refine wpAnyH_ready (rs := [5]) (by kernel_rfl) (by simp) (AllReadyH.cons rfl (fun K hK => ?_) AllReadyH.nil)
       obtain ⟨xs, hx1, hx2⟩ := (st4.out.p.1.2).xu
       refine step_append2 rfl (.tmp 12) (.tmp 15) 25 rfl (w.heap.size + 1) 96 i0 (.agg #[.int .i64 0, .int .i64 0, .string ⟨#[]⟩, .slice none 0 0, .slice none 0 0, .slice none 0 0, .slice none 0 0, .slice none 0 0, .slice none 0 0]) 9 176 Tryz.underlying25 hi hz0 hz1 hz2 rfl (by decide) _ ds.length xs rfl hx1 ⟨w3.heap.size, 0, none⟩ 1 1 [.int .i64 yi, .int .i64 yj, .string ys, .slice ya yn yc, .slice yd0 ym0 ye0, .slice yd1 ym1 ye1, .slice yd2 ym2 ye2, .slice yd3 ym3 ye3, .slice yd4 ym4 ye4] rfl rfl hY.out (by simp [Value.oneCell']) (by unfold maxLen; omega) (by omega) st4.out.sz ?_
       intro v' w9 hown' hgrow hfresh
       obtain ⟨va, vc, hvf⟩ := own_shape hown'
       subst hvf
       have st9 := st4.out.app (st4.out.p.1.1) (by simp) (st4.out.p.1.2) hx1 hx2 hown' hgrow hfresh (st4.out.p.2) rfl
       clear hown' hgrow hfresh hx1 hx2 st4 hY
       refine hK.out _ _ trivial (fun _ => ?_)
       clear hK K
       try simp only [sx]
       refine wpAnyH_take (i := 6) (v := ?_) rfl (by kernel_rfl) (by kernel_rfl) (by kernel_rfl) (fun _ _ _ h => h) (Or.inl ⟨by rfl, ?_⟩) hS ?_
       rotate_left
       · intro wz hz; go_simp; try with_reducible rfl
       try simp only [sx]
       refine wpAnyH_ready (rs := [7]) (by kernel_rfl) (by simp) (AllReadyH.cons rfl (fun K hK => ?_) AllReadyH.nil)
       obtain ⟨⟨mk0, mk1, mk2, mk3, mk4, mk5, mk6, mk7⟩, mz0, mz1, mz2, mz3, mz4, mz5, mz6, mz7⟩ := st9.out.l.e8
       go_simp
       refine hK.out _ _ trivial (fun _ => ?_)
       clear hK K
       try simp only [sx]
       refine wpAnyH_done (by kernel_rfl) ?_ _
       have st10 := st9.out.set 6 (.slice va (ds.length + 1) vc) (by simp)
       go_wp2
       go_roundw
       case rel => exact ⟨k, max n ny, r2, ds ++ [d], .slice va (ds.length + 1) vc, ⟨by omega, HK.out⟩, by have := HLen.out; rw [List.length_append]; simp only [List.length_singleton]; omega, st10⟩
       case measure =>
        refine Gr.less st10.out.r.left ?_
        rw [HRl.out]; exact HLen.out.1
     · skip
       go_simp
       refine (qG.out _ st2.out.r).mono ?_
       rintro e w3 ⟨⟨vsy, ny, rfl, ha0⟩, hRR, hBB⟩
       obtain ⟨yi, yj, ys, ya, yn, yc, yd0, ym0, ye0, yd1, ym1, ye1, yd2, ym2, ye2, yd3, ym3, ye3, yd4, ym4, ye4, rfl⟩ := ha0.dec_form
       have st3 := st2.out.addGz (st2.out.p.2) hRR hBB ha0
       clear hRR hBB ha0 st2
       refine hK.out _ _ trivial (fun _ => ?_)
       clear hK K
       try simp only [sx]
       refine wpAnyH_ready (rs := [1, 4]) (by kernel_rfl) (by simp) (AllReadyH.cons rfl (fun K hK => ?_) (AllReadyH.cons rfl (fun K hK => ?_) AllReadyH.nil))
       · skip
         obtain ⟨⟨lk0, lk1, lk2, lk3, lk4, lk5, lk6, lk7⟩, lz0, lz1, lz2, lz3, lz4, lz5, lz6, lz7⟩ := st3.out.l.e8
         go_simp
         refine hK.out _ _ trivial (fun _ => ?_)
         clear hK K
         try simp only [sx]
         refine wpAnyH_ready (rs := [4]) (by kernel_rfl) (by simp) (AllReadyH.cons rfl (fun K hK => ?_) AllReadyH.nil)
         go_simp
         obtain ⟨st4, hY⟩ := st3.out.made [.int .i64 yi, .int .i64 yj, .string ys, .slice ya yn yc, .slice yd0 ym0 ye0, .slice yd1 ym1 ye1, .slice yd2 ym2 ye2, .slice yd3 ym3 ye3, .slice yd4 ym4 ye4] 96 (w3.heap.size) (by simp)
         clear st3
         refine hK.out _ _ trivial (fun _ => ?_)
         clear hK K
         try simp only [sx]
         refine wpAnyH_ready (rs := [5]) (by kernel_rfl) (by simp) (AllReadyH.cons rfl (fun K hK => ?_) AllReadyH.nil)
         obtain ⟨xs, hx1, hx2⟩ := (st4.out.p.1.2).xu
         refine step_append2 rfl (.tmp 12) (.tmp 15) 25 rfl (w.heap.size + 1) 96 i0 (.agg #[.int .i64 0, .int .i64 0, .string ⟨#[]⟩, .slice none 0 0, .slice none 0 0, .slice none 0 0, .slice none 0 0, .slice none 0 0, .slice none 0 0]) 9 176 Tryz.underlying25 hi hz0 hz1 hz2 rfl (by decide) _ ds.length xs rfl hx1 ⟨w3.heap.size, 0, none⟩ 1 1 [.int .i64 yi, .int .i64 yj, .string ys, .slice ya yn yc, .slice yd0 ym0 ye0, .slice yd1 ym1 ye1, .slice yd2 ym2 ye2, .slice yd3 ym3 ye3, .slice yd4 ym4 ye4] rfl rfl hY.out (by simp [Value.oneCell']) (by unfold maxLen; omega) (by omega) st4.out.sz ?_
         intro v' w9 hown' hgrow hfresh
         obtain ⟨va, vc, hvf⟩ := own_shape hown'
         subst hvf
         have st9 := st4.out.app (st4.out.p.1.1) (by simp) (st4.out.p.1.2) hx1 hx2 hown' hgrow hfresh (st4.out.p.2) rfl
         clear hown' hgrow hfresh hx1 hx2 st4 hY
         refine hK.out _ _ trivial (fun _ => ?_)
         clear hK K
         try simp only [sx]
         refine wpAnyH_take (i := 6) (v := ?_) rfl (by kernel_rfl) (by kernel_rfl) (by kernel_rfl) (fun _ _ _ h => h) (Or.inl ⟨by rfl, ?_⟩) hS ?_
         rotate_left
         · intro wz hz; go_simp; try with_reducible rfl
         try simp only [sx]
         refine wpAnyH_ready (rs := [7]) (by kernel_rfl) (by simp) (AllReadyH.cons rfl (fun K hK => ?_) AllReadyH.nil)
         obtain ⟨⟨mk0, mk1, mk2, mk3, mk4, mk5, mk6, mk7⟩, mz0, mz1, mz2, mz3, mz4, mz5, mz6, mz7⟩ := st9.out.l.e8
         go_simp
         refine hK.out _ _ trivial (fun _ => ?_)
         clear hK K
         try simp only [sx]
         refine wpAnyH_done (by kernel_rfl) ?_ _
         have st10 := st9.out.set 6 (.slice va (ds.length + 1) vc) (by simp)
         go_wp2
         go_roundw
         case rel => exact ⟨k, max n ny, r2, ds ++ [d], .slice va (ds.length + 1) vc, ⟨by omega, HK.out⟩, by have := HLen.out; rw [List.length_append]; simp only [List.length_singleton]; omega, st10⟩
         case measure =>
          refine Gr.less st10.out.r.left ?_
          rw [HRl.out]; exact HLen.out.1
       · skip
         go_simp
         obtain ⟨st4, hY⟩ := st3.out.made [.int .i64 yi, .int .i64 yj, .string ys, .slice ya yn yc, .slice yd0 ym0 ye0, .slice yd1 ym1 ye1, .slice yd2 ym2 ye2, .slice yd3 ym3 ye3, .slice yd4 ym4 ye4] 96 (w3.heap.size) (by simp)
         clear st3
         refine hK.out _ _ trivial (fun _ => ?_)
         clear hK K
         try simp only [sx]
         refine wpAnyH_ready (rs := [1]) (by kernel_rfl) (by simp) (AllReadyH.cons rfl (fun K hK => ?_) AllReadyH.nil)
         obtain ⟨⟨lk0, lk1, lk2, lk3, lk4, lk5, lk6, lk7⟩, lz0, lz1, lz2, lz3, lz4, lz5, lz6, lz7⟩ := st4.out.l.e8
         go_simp
         refine hK.out _ _ trivial (fun _ => ?_)
         clear hK K
         try simp only [sx]
         refine wpAnyH_ready (rs := [5]) (by kernel_rfl) (by simp) (AllReadyH.cons rfl (fun K hK => ?_) AllReadyH.nil)
         obtain ⟨xs, hx1, hx2⟩ := (st4.out.p.1.2).xu
         refine step_append2 rfl (.tmp 12) (.tmp 15) 25 rfl (w.heap.size + 1) 96 i0 (.agg #[.int .i64 0, .int .i64 0, .string ⟨#[]⟩, .slice none 0 0, .slice none 0 0, .slice none 0 0, .slice none 0 0, .slice none 0 0, .slice none 0 0]) 9 176 Tryz.underlying25 hi hz0 hz1 hz2 rfl (by decide) _ ds.length xs rfl hx1 ⟨w3.heap.size, 0, none⟩ 1 1 [.int .i64 yi, .int .i64 yj, .string ys, .slice ya yn yc, .slice yd0 ym0 ye0, .slice yd1 ym1 ye1, .slice yd2 ym2 ye2, .slice yd3 ym3 ye3, .slice yd4 ym4 ye4] rfl rfl hY.out (by simp [Value.oneCell']) (by unfold maxLen; omega) (by omega) st4.out.sz ?_
         intro v' w9 hown' hgrow hfresh
         obtain ⟨va, vc, hvf⟩ := own_shape hown'
         subst hvf
         have st9 := st4.out.app (st4.out.p.1.1) (by simp) (st4.out.p.1.2) hx1 hx2 hown' hgrow hfresh (st4.out.p.2) rfl
         clear hown' hgrow hfresh hx1 hx2 st4 hY
         refine hK.out _ _ trivial (fun _ => ?_)
         clear hK K
         try simp only [sx]
         refine wpAnyH_take (i := 6) (v := ?_) rfl (by kernel_rfl) (by kernel_rfl) (by kernel_rfl) (fun _ _ _ h => h) (Or.inl ⟨by rfl, ?_⟩) hS ?_
         rotate_left
         · intro wz hz; go_simp; try with_reducible rfl
         try simp only [sx]
         refine wpAnyH_ready (rs := [7]) (by kernel_rfl) (by simp) (AllReadyH.cons rfl (fun K hK => ?_) AllReadyH.nil)
         obtain ⟨⟨mk0, mk1, mk2, mk3, mk4, mk5, mk6, mk7⟩, mz0, mz1, mz2, mz3, mz4, mz5, mz6, mz7⟩ := st9.out.l.e8
         go_simp
         refine hK.out _ _ trivial (fun _ => ?_)
         clear hK K
         try simp only [sx]
         refine wpAnyH_done (by kernel_rfl) ?_ _
         have st10 := st9.out.set 6 (.slice va (ds.length + 1) vc) (by simp)
         go_wp2
         go_roundw
         case rel => exact ⟨k, max n ny, r2, ds ++ [d], .slice va (ds.length + 1) vc, ⟨by omega, HK.out⟩, by have := HLen.out; rw [List.length_append]; simp only [List.length_singleton]; omega, st10⟩
         case measure =>
          refine Gr.less st10.out.r.left ?_
          rw [HRl.out]; exact HLen.out.1
   | false =>
    cases hF : Gr.isT [102, 117, 110] us with
    | true =>
     rw [hV, hF] at hk0
     simp only [Bool.or_true, if_true] at hk0
     cases hG : Gr.g k .dec us with
     | out => rw [hG] at hk0; exact absurd hk0 HN.out
     | bad r2 c =>
      have HK : Hid (Gr.g f (.letGo []) ts = .bad r2 c) := by show _ = _; rw [hk0, hG]; rfl
      have qG : Hid (∀ W, Rd W B S us → Calls Tryz.prog 135 #[.pointer (some ⟨B, 0, none⟩)] W (Gr.Ans B S 3 W (.bad r2 c))) := fun W hW => by rw [← hG]; exact ihD k (by omega) W B S us hW (by rw [hG]; simp)
      clear hk0 hK HN ihD ihE hG
      go_wp2_with (first | (go_at_call 33; refine (st1.out.is ⟨#[102, 117, 110]⟩ true hF).mono ?_; rintro e w2 ⟨rfl, st2⟩; clear st1) | (go_at_call 33; refine (st0.out.is ⟨#[118, 97, 108]⟩ false hV).mono ?_; rintro e w1 ⟨rfl, st1⟩; clear st0))
      have st3 := st2.out.drew
      clear st2
      refine wp_region_held_drew (S := fun wz => True) rfl (trivial) (fun hS => ?_)
      refine wpAnyH_take (i := 0) (v := ?_) rfl (by kernel_rfl) (by kernel_rfl) (by kernel_rfl) (fun _ _ _ h => h) (Or.inl ⟨by rfl, ?_⟩) hS ?_
      rotate_left
      · intro wz hz; go_simp; try with_reducible rfl
      try simp only [sx]
      refine wpAnyH_take (i := 2) (v := ?_) rfl (by kernel_rfl) (by kernel_rfl) (by kernel_rfl) (fun _ _ _ h => h) (Or.inl ⟨by rfl, ?_⟩) hS ?_
      rotate_left
      · intro wz hz; go_simp; try with_reducible rfl
      try simp only [sx]
      refine wpAnyH_ready (rs := [1, 3]) (by kernel_rfl) (by simp) (AllReadyH.cons rfl (fun K hK => ?_) (AllReadyH.cons rfl (fun K hK => ?_) AllReadyH.nil))
      · skip
        obtain ⟨⟨lk0, lk1, lk2, lk3, lk4, lk5, lk6, lk7⟩, lz0, lz1, lz2, lz3, lz4, lz5, lz6, lz7⟩ := st3.out.l.e8
        go_simp
        refine hK.out _ _ trivial (fun _ => ?_)
        clear hK K
        try simp only [sx]
        refine wpAnyH_ready (rs := [3]) (by kernel_rfl) (by simp) (AllReadyH.cons rfl (fun K hK => ?_) AllReadyH.nil)
        go_simp
        refine (qG.out _ st3.out.r).mono ?_
        rintro e ww ⟨rfl, hRR, hBB⟩
        exact ⟨rfl, by rw [HK.out]; exact ⟨rfl, hRR, st3.out.b.trans hBB⟩⟩
      · skip
        go_simp
        refine (qG.out _ st3.out.r).mono ?_
        rintro e ww ⟨rfl, hRR, hBB⟩
        exact ⟨rfl, by rw [HK.out]; exact ⟨rfl, hRR, st3.out.b.trans hBB⟩⟩
     | ok d r2 =>
      have HK : Hid (Gr.g f (.letGo []) ts = Gr.g k (.letGo (ds ++ [d])) r2) := by show _ = _; rw [hk0, hG]; rfl
      have qG : Hid (∀ W, Rd W B S us → Calls Tryz.prog 135 #[.pointer (some ⟨B, 0, none⟩)] W (Gr.Ans B S 3 W (.ok d r2))) := fun W hW => by rw [← hG]; exact ihD k (by omega) W B S us hW (by rw [hG]; simp)
      have HLen : Hid (r2.length < us.length ∧ ds.length + us.length ≤ 1024) := by have h1 := Gr.ok_len hG; exact ⟨h1, hlen⟩
      have hds : ds.length ≤ 1024 := by omega
      clear hk0 hK HN ihD ihE hG hlen
      go_wp2_with (first | (go_at_call 33; refine (st1.out.is ⟨#[102, 117, 110]⟩ true hF).mono ?_; rintro e w2 ⟨rfl, st2⟩; clear st1) | (go_at_call 33; refine (st0.out.is ⟨#[118, 97, 108]⟩ false hV).mono ?_; rintro e w1 ⟨rfl, st1⟩; clear st0))
      have st3 := st2.out.drew
      clear st2
      refine wp_region_held_drew (S := fun wz => True) rfl (trivial) (fun hS => ?_)
      refine wpAnyH_take (i := 0) (v := ?_) rfl (by kernel_rfl) (by kernel_rfl) (by kernel_rfl) (fun _ _ _ h => h) (Or.inl ⟨by rfl, ?_⟩) hS ?_
      rotate_left
      · intro wz hz; go_simp; try with_reducible rfl
      try simp only [sx]
      refine wpAnyH_take (i := 2) (v := ?_) rfl (by kernel_rfl) (by kernel_rfl) (by kernel_rfl) (fun _ _ _ h => h) (Or.inl ⟨by rfl, ?_⟩) hS ?_
      rotate_left
      · intro wz hz; go_simp; try with_reducible rfl
      try simp only [sx]
      refine wpAnyH_ready (rs := [1, 3]) (by kernel_rfl) (by simp) (AllReadyH.cons rfl (fun K hK => ?_) (AllReadyH.cons rfl (fun K hK => ?_) AllReadyH.nil))
      · skip
        obtain ⟨⟨lk0, lk1, lk2, lk3, lk4, lk5, lk6, lk7⟩, lz0, lz1, lz2, lz3, lz4, lz5, lz6, lz7⟩ := st3.out.l.e8
        go_simp
        refine hK.out _ _ trivial (fun _ => ?_)
        clear hK K
        try simp only [sx]
        refine wpAnyH_ready (rs := [3]) (by kernel_rfl) (by simp) (AllReadyH.cons rfl (fun K hK => ?_) AllReadyH.nil)
        go_simp
        refine (qG.out _ st3.out.r).mono ?_
        rintro e w4 ⟨⟨vsy, ny, rfl, ha0⟩, hRR, hBB⟩
        obtain ⟨yi, yj, ys, ya, yn, yc, yd0, ym0, ye0, yd1, ym1, ye1, yd2, ym2, ye2, yd3, ym3, ye3, yd4, ym4, ye4, rfl⟩ := ha0.dec_form
        have st4 := st3.out.addGz (st3.out.p.2) hRR hBB ha0
        clear hRR hBB ha0 st3
        refine hK.out _ _ trivial (fun _ => ?_)
        clear hK K
        try simp only [sx]
        refine wpAnyH_ready (rs := [4]) (by kernel_rfl) (by simp) (AllReadyH.cons rfl (fun K hK => ?_) AllReadyH.nil)
        go_simp
        obtain ⟨st5, hY⟩ := st4.out.made [.int .i64 yi, .int .i64 yj, .string ys, .slice ya yn yc, .slice yd0 ym0 ye0, .slice yd1 ym1 ye1, .slice yd2 ym2 ye2, .slice yd3 ym3 ye3, .slice yd4 ym4 ye4] 96 (w4.heap.size) (by simp)
        clear st4
        refine hK.out _ _ trivial (fun _ => ?_)
        clear hK K
        try simp only [sx]
        refine wpAnyH_ready (rs := [5]) (by kernel_rfl) (by simp) (AllReadyH.cons rfl (fun K hK => ?_) AllReadyH.nil)
        obtain ⟨xs, hx1, hx2⟩ := (st5.out.p.1.2).xu
        refine step_append2 rfl (.tmp 12) (.tmp 15) 25 rfl (w.heap.size + 1) 96 i0 (.agg #[.int .i64 0, .int .i64 0, .string ⟨#[]⟩, .slice none 0 0, .slice none 0 0, .slice none 0 0, .slice none 0 0, .slice none 0 0, .slice none 0 0]) 9 176 Tryz.underlying25 hi hz0 hz1 hz2 rfl (by decide) _ ds.length xs rfl hx1 ⟨w4.heap.size, 0, none⟩ 1 1 [.int .i64 yi, .int .i64 yj, .string ys, .slice ya yn yc, .slice yd0 ym0 ye0, .slice yd1 ym1 ye1, .slice yd2 ym2 ye2, .slice yd3 ym3 ye3, .slice yd4 ym4 ye4] rfl rfl hY.out (by simp [Value.oneCell']) (by unfold maxLen; omega) (by omega) st5.out.sz ?_
        intro v' w9 hown' hgrow hfresh
        obtain ⟨va, vc, hvf⟩ := own_shape hown'
        subst hvf
        have st9 := st5.out.app (st5.out.p.1.1) (by simp) (st5.out.p.1.2) hx1 hx2 hown' hgrow hfresh (st5.out.p.2) rfl
        clear hown' hgrow hfresh hx1 hx2 st5 hY
        refine hK.out _ _ trivial (fun _ => ?_)
        clear hK K
        try simp only [sx]
        refine wpAnyH_take (i := 6) (v := ?_) rfl (by kernel_rfl) (by kernel_rfl) (by kernel_rfl) (fun _ _ _ h => h) (Or.inl ⟨by rfl, ?_⟩) hS ?_
        rotate_left
        · intro wz hz; go_simp; try with_reducible rfl
        try simp only [sx]
        refine wpAnyH_ready (rs := [7]) (by kernel_rfl) (by simp) (AllReadyH.cons rfl (fun K hK => ?_) AllReadyH.nil)
        obtain ⟨⟨mk0, mk1, mk2, mk3, mk4, mk5, mk6, mk7⟩, mz0, mz1, mz2, mz3, mz4, mz5, mz6, mz7⟩ := st9.out.l.e8
        go_simp
        refine hK.out _ _ trivial (fun _ => ?_)
        clear hK K
        try simp only [sx]
        refine wpAnyH_done (by kernel_rfl) ?_ _
        have st10 := st9.out.set 6 (.slice va (ds.length + 1) vc) (by simp)
        go_wp2
        go_roundw
        case rel => exact ⟨k, max n ny, r2, ds ++ [d], .slice va (ds.length + 1) vc, ⟨by omega, HK.out⟩, by have := HLen.out; rw [List.length_append]; simp only [List.length_singleton]; omega, st10⟩
        case measure =>
         refine Gr.less st10.out.r.left ?_
         rw [HRl.out]; exact HLen.out.1
      · skip
        go_simp
        refine (qG.out _ st3.out.r).mono ?_
        rintro e w4 ⟨⟨vsy, ny, rfl, ha0⟩, hRR, hBB⟩
        obtain ⟨yi, yj, ys, ya, yn, yc, yd0, ym0, ye0, yd1, ym1, ye1, yd2, ym2, ye2, yd3, ym3, ye3, yd4, ym4, ye4, rfl⟩ := ha0.dec_form
        have st4 := st3.out.addGz (st3.out.p.2) hRR hBB ha0
        clear hRR hBB ha0 st3
        refine hK.out _ _ trivial (fun _ => ?_)
        clear hK K
        try simp only [sx]
        refine wpAnyH_ready (rs := [1, 4]) (by kernel_rfl) (by simp) (AllReadyH.cons rfl (fun K hK => ?_) (AllReadyH.cons rfl (fun K hK => ?_) AllReadyH.nil))
        · skip
          obtain ⟨⟨lk0, lk1, lk2, lk3, lk4, lk5, lk6, lk7⟩, lz0, lz1, lz2, lz3, lz4, lz5, lz6, lz7⟩ := st4.out.l.e8
          go_simp
          refine hK.out _ _ trivial (fun _ => ?_)
          clear hK K
          try simp only [sx]
          refine wpAnyH_ready (rs := [4]) (by kernel_rfl) (by simp) (AllReadyH.cons rfl (fun K hK => ?_) AllReadyH.nil)
          go_simp
          obtain ⟨st5, hY⟩ := st4.out.made [.int .i64 yi, .int .i64 yj, .string ys, .slice ya yn yc, .slice yd0 ym0 ye0, .slice yd1 ym1 ye1, .slice yd2 ym2 ye2, .slice yd3 ym3 ye3, .slice yd4 ym4 ye4] 96 (w4.heap.size) (by simp)
          clear st4
          refine hK.out _ _ trivial (fun _ => ?_)
          clear hK K
          try simp only [sx]
          refine wpAnyH_ready (rs := [5]) (by kernel_rfl) (by simp) (AllReadyH.cons rfl (fun K hK => ?_) AllReadyH.nil)
          obtain ⟨xs, hx1, hx2⟩ := (st5.out.p.1.2).xu
          refine step_append2 rfl (.tmp 12) (.tmp 15) 25 rfl (w.heap.size + 1) 96 i0 (.agg #[.int .i64 0, .int .i64 0, .string ⟨#[]⟩, .slice none 0 0, .slice none 0 0, .slice none 0 0, .slice none 0 0, .slice none 0 0, .slice none 0 0]) 9 176 Tryz.underlying25 hi hz0 hz1 hz2 rfl (by decide) _ ds.length xs rfl hx1 ⟨w4.heap.size, 0, none⟩ 1 1 [.int .i64 yi, .int .i64 yj, .string ys, .slice ya yn yc, .slice yd0 ym0 ye0, .slice yd1 ym1 ye1, .slice yd2 ym2 ye2, .slice yd3 ym3 ye3, .slice yd4 ym4 ye4] rfl rfl hY.out (by simp [Value.oneCell']) (by unfold maxLen; omega) (by omega) st5.out.sz ?_
          intro v' w9 hown' hgrow hfresh
          obtain ⟨va, vc, hvf⟩ := own_shape hown'
          subst hvf
          have st9 := st5.out.app (st5.out.p.1.1) (by simp) (st5.out.p.1.2) hx1 hx2 hown' hgrow hfresh (st5.out.p.2) rfl
          clear hown' hgrow hfresh hx1 hx2 st5 hY
          refine hK.out _ _ trivial (fun _ => ?_)
          clear hK K
          try simp only [sx]
          refine wpAnyH_take (i := 6) (v := ?_) rfl (by kernel_rfl) (by kernel_rfl) (by kernel_rfl) (fun _ _ _ h => h) (Or.inl ⟨by rfl, ?_⟩) hS ?_
          rotate_left
          · intro wz hz; go_simp; try with_reducible rfl
          try simp only [sx]
          refine wpAnyH_ready (rs := [7]) (by kernel_rfl) (by simp) (AllReadyH.cons rfl (fun K hK => ?_) AllReadyH.nil)
          obtain ⟨⟨mk0, mk1, mk2, mk3, mk4, mk5, mk6, mk7⟩, mz0, mz1, mz2, mz3, mz4, mz5, mz6, mz7⟩ := st9.out.l.e8
          go_simp
          refine hK.out _ _ trivial (fun _ => ?_)
          clear hK K
          try simp only [sx]
          refine wpAnyH_done (by kernel_rfl) ?_ _
          have st10 := st9.out.set 6 (.slice va (ds.length + 1) vc) (by simp)
          go_wp2
          go_roundw
          case rel => exact ⟨k, max n ny, r2, ds ++ [d], .slice va (ds.length + 1) vc, ⟨by omega, HK.out⟩, by have := HLen.out; rw [List.length_append]; simp only [List.length_singleton]; omega, st10⟩
          case measure =>
           refine Gr.less st10.out.r.left ?_
           rw [HRl.out]; exact HLen.out.1
        · skip
          go_simp
          obtain ⟨st5, hY⟩ := st4.out.made [.int .i64 yi, .int .i64 yj, .string ys, .slice ya yn yc, .slice yd0 ym0 ye0, .slice yd1 ym1 ye1, .slice yd2 ym2 ye2, .slice yd3 ym3 ye3, .slice yd4 ym4 ye4] 96 (w4.heap.size) (by simp)
          clear st4
          refine hK.out _ _ trivial (fun _ => ?_)
          clear hK K
          try simp only [sx]
          refine wpAnyH_ready (rs := [1]) (by kernel_rfl) (by simp) (AllReadyH.cons rfl (fun K hK => ?_) AllReadyH.nil)
          obtain ⟨⟨lk0, lk1, lk2, lk3, lk4, lk5, lk6, lk7⟩, lz0, lz1, lz2, lz3, lz4, lz5, lz6, lz7⟩ := st5.out.l.e8
          go_simp
          refine hK.out _ _ trivial (fun _ => ?_)
          clear hK K
          try simp only [sx]
          refine wpAnyH_ready (rs := [5]) (by kernel_rfl) (by simp) (AllReadyH.cons rfl (fun K hK => ?_) AllReadyH.nil)
          obtain ⟨xs, hx1, hx2⟩ := (st5.out.p.1.2).xu
          refine step_append2 rfl (.tmp 12) (.tmp 15) 25 rfl (w.heap.size + 1) 96 i0 (.agg #[.int .i64 0, .int .i64 0, .string ⟨#[]⟩, .slice none 0 0, .slice none 0 0, .slice none 0 0, .slice none 0 0, .slice none 0 0, .slice none 0 0]) 9 176 Tryz.underlying25 hi hz0 hz1 hz2 rfl (by decide) _ ds.length xs rfl hx1 ⟨w4.heap.size, 0, none⟩ 1 1 [.int .i64 yi, .int .i64 yj, .string ys, .slice ya yn yc, .slice yd0 ym0 ye0, .slice yd1 ym1 ye1, .slice yd2 ym2 ye2, .slice yd3 ym3 ye3, .slice yd4 ym4 ye4] rfl rfl hY.out (by simp [Value.oneCell']) (by unfold maxLen; omega) (by omega) st5.out.sz ?_
          intro v' w9 hown' hgrow hfresh
          obtain ⟨va, vc, hvf⟩ := own_shape hown'
          subst hvf
          have st9 := st5.out.app (st5.out.p.1.1) (by simp) (st5.out.p.1.2) hx1 hx2 hown' hgrow hfresh (st5.out.p.2) rfl
          clear hown' hgrow hfresh hx1 hx2 st5 hY
          refine hK.out _ _ trivial (fun _ => ?_)
          clear hK K
          try simp only [sx]
          refine wpAnyH_take (i := 6) (v := ?_) rfl (by kernel_rfl) (by kernel_rfl) (by kernel_rfl) (fun _ _ _ h => h) (Or.inl ⟨by rfl, ?_⟩) hS ?_
          rotate_left
          · intro wz hz; go_simp; try with_reducible rfl
          try simp only [sx]
          refine wpAnyH_ready (rs := [7]) (by kernel_rfl) (by simp) (AllReadyH.cons rfl (fun K hK => ?_) AllReadyH.nil)
          obtain ⟨⟨mk0, mk1, mk2, mk3, mk4, mk5, mk6, mk7⟩, mz0, mz1, mz2, mz3, mz4, mz5, mz6, mz7⟩ := st9.out.l.e8
          go_simp
          refine hK.out _ _ trivial (fun _ => ?_)
          clear hK K
          try simp only [sx]
          refine wpAnyH_done (by kernel_rfl) ?_ _
          have st10 := st9.out.set 6 (.slice va (ds.length + 1) vc) (by simp)
          go_wp2
          go_roundw
          case rel => exact ⟨k, max n ny, r2, ds ++ [d], .slice va (ds.length + 1) vc, ⟨by omega, HK.out⟩, by have := HLen.out; rw [List.length_append]; simp only [List.length_singleton]; omega, st10⟩
          case measure =>
           refine Gr.less st10.out.r.left ?_
           rw [HRl.out]; exact HLen.out.1
    | false =>
     rw [hV, hF] at hk0
     simp only [Bool.or_self, Bool.false_eq_true, if_false] at hk0
     cases hI : Gr.isT [105, 110] us with
     | false =>
      have HK : Hid (Gr.g f (.letGo []) ts = .bad us 11) := by show _ = _; rw [hk0, Gr.need, if_neg (by rw [hI]; simp)]
      clear hk0 hK HN ihD ihE
      go_wp2_with (first | (go_at_call 17; refine (gr_need_no _ B S us st2.out.r ⟨#[105, 110]⟩ hI).mono ?_; rintro e w3 ⟨rfl, hRR, hBB⟩) | (go_at_call 33; refine (st1.out.is ⟨#[102, 117, 110]⟩ false hF).mono ?_; rintro e w2 ⟨rfl, st2⟩; clear st1) | (go_at_call 33; refine (st0.out.is ⟨#[118, 97, 108]⟩ false hV).mono ?_; rintro e w1 ⟨rfl, st1⟩; clear st0))
      exact ⟨rfl, by rw [HK.out]; exact ⟨rfl, ⟨_, hRR⟩, st2.out.b.trans hBB⟩⟩
     | true =>
      rw [Gr.need, if_pos hI] at hk0
      cases hG : Gr.g k .exp us.tail with
      | out => rw [hG] at hk0; exact absurd hk0 HN.out
      | bad r2 c =>
       have HK : Hid (Gr.g f (.letGo []) ts = .bad r2 c) := by show _ = _; rw [hk0, hG]; rfl
       have qG : Hid (∀ W, Rd W B S us.tail → Calls Tryz.prog 8 #[.pointer (some ⟨B, 0, none⟩)] W (Gr.Ans B S 2 W (.bad r2 c))) := fun W hW => by rw [← hG]; exact ihE k (by omega) W B S us.tail hW (by rw [hG]; simp)
       clear hG
       clear hk0 hK HN ihD ihE
       go_wp2_with (first | (go_at_call 8; refine (qG.out _ st3.out.r).mono ?_; rintro e w4 ⟨rfl, hRR, hBB⟩) | (go_at_call 17; refine (st2.out.nd ⟨#[105, 110]⟩ hI).mono ?_; rintro e w3 ⟨rfl, st3⟩; clear st2) | (go_at_call 33; refine (st1.out.is ⟨#[102, 117, 110]⟩ false hF).mono ?_; rintro e w2 ⟨rfl, st2⟩; clear st1) | (go_at_call 33; refine (st0.out.is ⟨#[118, 97, 108]⟩ false hV).mono ?_; rintro e w1 ⟨rfl, st1⟩; clear st0))
       exact ⟨rfl, by rw [HK.out]; exact ⟨rfl, hRR, st3.out.b.trans hBB⟩⟩
      | ok e r2 =>
       rw [hG] at hk0
       simp only [Gr.Res.bind] at hk0
       have qG : Hid (∀ W, Rd W B S us.tail → Calls Tryz.prog 8 #[.pointer (some ⟨B, 0, none⟩)] W (Gr.Ans B S 2 W (.ok e r2))) := fun W hW => by rw [← hG]; exact ihE k (by omega) W B S us.tail hW (by rw [hG]; simp)
       clear hG
       cases hE : Gr.isT [101, 110, 100] r2 with
       | false =>
        have HK : Hid (Gr.g f (.letGo []) ts = .bad r2 11) := by show _ = _; rw [hk0, Gr.need, if_neg (by rw [hE]; simp)]
        clear hk0 hK HN ihD ihE
        go_wp2_with (first | (go_at_call 17; refine (gr_need_no _ B S r2 st6.out.r ⟨#[101, 110, 100]⟩ hE).mono ?_; rintro e w7 ⟨rfl, hRR, hBB⟩) | (go_at_call 8; refine (qG.out _ st3.out.r).mono ?_; rintro e w4 ⟨⟨vsy, ny, rfl, ha0⟩, hRR, hBB⟩; obtain ⟨yi, yj, yk, ya, yn, yc, yd0, ym0, ye0, yd1, ym1, ye1, yd2, ym2, ye2, yd3, ym3, ye3, rfl⟩ := ha0.exp_form; have st4 := st3.out.addAt hRR hBB ha0; have st5 := st4.out.sl1 (st4.out.p.2) 28 w4.heap.size rfl rfl; clear st4; obtain ⟨cj, zj⟩ := st5.out.l.ej 5 _ rfl; have st6 := st5.out.set 5 (.slice (some ⟨w4.heap.size, 0, none⟩) 1 1) (by simp); clear st5; clear hRR hBB ha0 st3) | (go_at_call 17; refine (st2.out.nd ⟨#[105, 110]⟩ hI).mono ?_; rintro e w3 ⟨rfl, st3⟩; clear st2) | (go_at_call 33; refine (st1.out.is ⟨#[102, 117, 110]⟩ false hF).mono ?_; rintro e w2 ⟨rfl, st2⟩; clear st1) | (go_at_call 33; refine (st0.out.is ⟨#[118, 97, 108]⟩ false hV).mono ?_; rintro e w1 ⟨rfl, st1⟩; clear st0))
        exact ⟨rfl, by rw [HK.out]; exact ⟨rfl, ⟨_, hRR⟩, st6.out.b.trans hBB⟩⟩
       | true =>
        have HK : Hid (Gr.g f (.letGo []) ts = .ok (Gr.expN 10 0 0 [] [] [e] ds []) r2.tail) := by show _ = _; rw [hk0, Gr.need, if_pos hE]
        clear hk0 hK HN ihD ihE
        go_wp2_with (first | (go_at_call 17; refine (st6.out.nd ⟨#[101, 110, 100]⟩ hE).mono ?_; rintro e w7 ⟨rfl, st7⟩; obtain ⟨⟨k0, k1, k2, k3, k4, k5, k6, k7⟩, z0, z1, z2, z3, z4, z5, z6, z7⟩ := st7.out.p.1.1.1.e8; have hlw := st7.out.sz; obtain ⟨⟨lk0, lk1, lk2, lk3, lk4, lk5, lk6, lk7⟩, lz0, lz1, lz2, lz3, lz4, lz5, lz6, lz7⟩ := st7.out.l.e8; clear st6) | (go_at_call 8; refine (qG.out _ st3.out.r).mono ?_; rintro e w4 ⟨⟨vsy, ny, rfl, ha0⟩, hRR, hBB⟩; obtain ⟨yi, yj, yk, ya, yn, yc, yd0, ym0, ye0, yd1, ym1, ye1, yd2, ym2, ye2, yd3, ym3, ye3, rfl⟩ := ha0.exp_form; have st4 := st3.out.addAt hRR hBB ha0; have st5 := st4.out.sl1 (st4.out.p.2) 28 w4.heap.size rfl rfl; clear st4; obtain ⟨cj, zj⟩ := st5.out.l.ej 5 _ rfl; have st6 := st5.out.set 5 (.slice (some ⟨w4.heap.size, 0, none⟩) 1 1) (by simp); clear st5; clear hRR hBB ha0 st3) | (go_at_call 17; refine (st2.out.nd ⟨#[105, 110]⟩ hI).mono ?_; rintro e w3 ⟨rfl, st3⟩; clear st2) | (go_at_call 33; refine (st1.out.is ⟨#[102, 117, 110]⟩ false hF).mono ?_; rintro e w2 ⟨rfl, st2⟩; clear st1) | (go_at_call 33; refine (st0.out.is ⟨#[118, 97, 108]⟩ false hV).mono ?_; rintro e w1 ⟨rfl, st1⟩; clear st0))
        refine bodyPost_ret (v := .agg #[.int .i64 10, .int .i64 0, .int .i64 0, .slice none 0 0, .slice none 0 0, .slice (some ⟨w4.heap.size, 0, none⟩) 1 1, .slice sa ds.length sc, .slice none 0 0]) (by rw [results_cell1 (fn := Tryz.f127) (p := 2) (ty := 28) (by kernel_rfl)]; simp [go_sem, k0, k1, k2, k3, k4, k5, k6, k7]) rfl ?_
        rw [HK.out]
        exact st7.out.ans (by simp only [sv]) (At.exp_mk (n := max n ny) (by decide) (by decide) (by decide) (Tx.none0 ..) (fun x hx => by cases hx) (Nat.zero_le _) (AtL.none0 ..) (AtL.le (st7.out.p.2) (Nat.le_max_right n ny)) (AtL.le (Nr.row (st7.out.p.1.1.2)) (Nat.le_max_left n ny)) (AtL.none0 ..))
end Go.Proofs.YtjebepnphoeiaabGreatDoor
