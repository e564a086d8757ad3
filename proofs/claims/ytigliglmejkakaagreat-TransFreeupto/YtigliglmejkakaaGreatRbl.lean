/- Gathering what stands free. -/
import Derived.Test.YtigliglmejkakaaGreatRav
namespace Go.Proofs.YtigliglmejkakaaGreat.Tgt
open Go.RowKit
set_option linter.unusedVariables false
set_option linter.unusedSimpArgs false

theorem intoG (L M : Nat) (w : World) (own : Nat → Prop) (e : List (Int × Int)) (F A : Int → Bool) (n k b o : Nat) (t : Tt) (h : Gt L M w own e F A n) (hP : PAt w (fun b => b < L) k b o t) (hLM : L ≤ M) (hn : n < 4611686018427387904) (he : e.length < 1099511627776) : Calls Tryz.prog 54 #[.pointer (some ⟨M, 0, none⟩), .pointer (some ⟨b, o, none⟩)] w fun r w' => r = .returned (.agg #[.int .i64 e.length, .int .i64 0]) ∧ ∃ own', Gt L M w' own' (t.env e) F A (n + 1) ∧ Ev own w own' w' := by
  obtain ⟨vs, mv, lv, h1, h2⟩ := h.walk
  refine (into_any w M GT vs 0 (M + 1) mv lv e n k b o t (hP.move (Keeps.refl _ _) (fun b hb => by omega)) h1 hn he).mono ?_
  rintro r w' ⟨rfl, vs', mv', lv', hvs, hw, hev⟩
  exact ⟨rfl, h2 w' vs' mv' lv' _ _ (by omega) hvs hw hev⟩
theorem backG (L M : Nat) (w : World) (own : Nat → Prop) (e : List (Int × Int)) (F A : Int → Bool) (n : Nat) (t : Tt) (h : Gt L M w own (t.env e) F A n) (hn : n + e.length + 1 < 4611686018427387904) : Calls Tryz.prog 56 #[.pointer (some ⟨M, 0, none⟩), .agg #[.int .i64 e.length, .int .i64 0]] w fun r w' => r = .returned (.tuple #[]) ∧ ∃ own', Gt L M w' own' e F A (n + e.length + 1) ∧ Ev own w own' w' := by
  obtain ⟨vs, mv, lv, h1, h2⟩ := h.walk
  obtain ⟨l1, l2, l3⟩ := env_len t e
  refine (wback_any w M GT vs 0 (M + 1) mv lv (t.env e) n e.length h1 (by omega) l1).mono ?_
  rintro r w' ⟨rfl, vs', lv', hvs, hw, hev⟩
  rw [l3] at hw
  exact ⟨rfl, h2 w' vs' mv lv' _ _ (by omega) hvs (hw.up (by omega)) hev⟩
theorem findG (L M : Nat) (w : World) (own : Nat → Prop) (e : List (Int × Int)) (F A : Int → Bool) (n : Nat) (x : Int) (hx : R64 x) (h : Gt L M w own e F A n) : Calls Tryz.prog 98 #[.pointer (some ⟨M, 2, none⟩), .int .i64 x] w fun r w' => r = .returned (.tuple #[.int .i64 ((lk e x).getD 0), .bool (lk e x).isSome]) ∧ w' = w := by
  obtain ⟨vs, mv, lv, h1, h2⟩ := h.walk
  exact find_any w M (0 + 2) (M + 1) GT vs mv lv e n x hx h1.arr h1.m h1.scp
def GathOf (L M k : Nat) : Prop := ∀ (w : World) (own : Nat → Prop) (e : List (Int × Int)) (F A : Int → Bool) (n b o : Nat) (t : Tt), Gt L M w own e F A n → PAt w (fun b => b < L) k b o t → e.length + t.deepest ≤ 2097152 → n + t.cnt * 8388608 ≤ 2305843009213693952 →
  Calls Tryz.prog 70 #[.pointer (some ⟨M, 0, none⟩), .pointer (some ⟨b, o, none⟩)] w fun r w' => r = .returned (.tuple #[]) ∧ ∃ own', Gt L M w' own' e (fun x => F x || t.fv e x) (fun x => A x || t.av x) (n + t.cnt * 8388608) ∧ Ev own w own' w'

set_option maxHeartbeats 4000000 in
set_option maxRecDepth 100000 in
theorem gath_step (L M k : Nat) (hLM : L ≤ M) (ih : GathOf L M k) : GathOf L M (k + 1) := by
  intro w own e F A n b o t hG hP h1 h2
  obtain ⟨la, lc, ka, kc, x0, x1, x2, x3, -, hN, hS, hL⟩ := hP.cells
  have hbL : b < L := hP.1
  have hct := And.intro (Tt.cnt_ks t) (Tt.deepest_ks t)
  have HP : Hid (∀ wz own', Ev own w own' wz → PAt wz (fun b => b < L) (k + 1) b o t) := fun wz own' hz => hP.move (hG.keeps hz) (fun _ h => h)
  have HX1 : Hid (∀ wz own', Ev own w own' wz → wz.cell? ⟨b, o + 1, none⟩ = some (.int .i64 t.n)) := fun wz own' hz => hG.keeps hz _ _ _ hP.1 x1
  have HX3 : Hid (∀ wz own', Ev own w own' wz → wz.cell? ⟨b, o + 3, none⟩ = some (.slice ka t.ks.length kc)) := fun wz own' hz => hG.keeps hz _ _ _ hP.1 x3
  have HLs : Hid (∀ wz own', Ev own w own' wz → TAtL wz (fun b => b < L) k (.slice ka t.ks.length kc) t.ks) := fun wz own' hz => hL.move (hG.keeps hz) (fun _ h => h)
  have HKL : Hid (t.ks.length ≤ maxLen) := by obtain ⟨_, _, hv, hm⟩ := hL.form; exact hm
  generalize hFF : (fun x => F x || t.fv e x) = FF
  generalize hAA : (fun x => A x || t.av x) = AA
  have HF : Hid (∀ x, FF x = (F x || ((t.k == 6 && (t.n == x && (lk e x).isNone)) || Tt.fvL t.ks (t.env e) x))) := fun x => by rw [← hFF, ← Tt.fv_mk]
  have HA : Hid (∀ x, AA x = (A x || (((t.k == 6 || t.binds) && t.n == x) || Tt.avL t.ks x))) := fun x => by rw [← hAA, ← Tt.av_mk]
  have GT0 := hid hG
  have HB := hid (And.intro hct (And.intro h1 h2))
  have HIH := hid ih
  have HN := hid hN
  have hn2 : Hid (n + 1 < maxLen) := by show _ < _; unfold maxLen; omega
  clear hFF hAA hG hP hS hL x1 x2 x3 hct h1 h2 ih hN
  by_cases h6 : t.k = 6
  · have g6 : (t.k == 6) = true := by simpa using h6
    have BN : Hid (t.binds = false) := by show _ = _; unfold Tt.binds; simp [h6]
    rw [g6] at HF HA
    rw [BN.out] at HA
    simp only [Bool.true_and, Bool.true_or, Bool.or_false] at HF HA
    clear h6
    cases hlk : lk e t.n with
    | none =>
      have FQ : Hid (∀ wz own' A' n', Ev own w own' wz → Gt L M wz own' e F A' n' → Calls Tryz.prog 98 #[.pointer (some ⟨M, 2, none⟩), .int .i64 t.n] wz fun r w' => r = .returned (.tuple #[.int .i64 0, .bool false]) ∧ w' = wz) := fun wz own' A' n' _ h => by
        have := findG L M wz own' e F A' n' t.n HN.out h
        rw [hlk] at this
        exact this
      have HLK := hid hlk
      clear hlk
      have GTc := GT0
      have EVc : Hid (Ev own w own w) := Ev.refl _ _
      go_enter Tryz.func70, Tryz.ntmps70
      go_wp2_with fail
      obtain ⟨C7, c7, l7, m7, PU⟩ := (GTc.out.stays (Below.refl _ _).drew).putA
      have x1 := HX1.out _ _ EVc.out
      have hMl := (GTc.out.own M (by obtain ⟨_, _, _, _, _, _, _, _, _, _, _, rfl⟩ := GTc.out; exact .inl rfl)).2
      have hbl := World.block_lt_of_cell? _ _ x1
      have Y6 : Hid (∀ w4, w.drew.grownBy w4 (some C7) → w4.cell? ⟨M, 7, none⟩ = some (.map (some C7)) ∧ w4.cell? ⟨b, o + 1, none⟩ = some (.int .i64 t.n)) := fun w4 h => ⟨(World.cell?_of_block (w := w) (a := ⟨M, 7, none⟩) (h.block M hMl (fun q => by have := Option.some.inj q; omega))).trans c7, (World.cell?_of_block (w := w) (a := ⟨b, o + 1, none⟩) (h.block b hbl (fun q => by have := Option.some.inj q; omega))).trans x1⟩
      have PUc := hid (PU t.n HN.out (by have := hn2.out; omega))
      have EVd := hid EVc.out.drew
      have hs0 := hid (And.intro c7 x1)
      clear PU c7 x1 GTc EVc
      refine wp_region_held_drew (S := fun wz => wz.cell? ⟨M, 7, none⟩ = some (.map (some C7)) ∧ wz.cell? ⟨b, o + 1, none⟩ = some (.int .i64 t.n)) (by kernel_rfl) (hs0.out) (fun hS => ?_)
      generalize w.drew = wc0 at hS  PUc Y6 EVd ⊢
      refine wpAnyH_take (i := 0) (v := ?_) rfl (by kernel_rfl) (by kernel_rfl) (by kernel_rfl) (fun _ _ _ h => h) (Or.inl ⟨by rfl, ?_⟩) hS ?_
      rotate_left
      · intro wz hz; go_simp; try with_reducible rfl
      try simp only [Act.put, List.setIfInBounds_toArray, List.set_cons_zero, List.set_cons_succ, List.getElem_toArray, List.getElem_cons_succ, List.getElem_cons_zero]
      refine wpAnyH_take (i := 1) (v := ?_) rfl (by kernel_rfl) (by kernel_rfl) (by kernel_rfl) (fun _ _ _ h => h) (Or.inl ⟨by rfl, ?_⟩) hS ?_
      rotate_left
      · intro wz hz; go_simp; try with_reducible rfl
      try simp only [Act.put, List.setIfInBounds_toArray, List.set_cons_zero, List.set_cons_succ, List.getElem_toArray, List.getElem_cons_succ, List.getElem_cons_zero]
      refine wpAnyH_take (i := 2) (v := ?_) rfl (by kernel_rfl) (by kernel_rfl) (by kernel_rfl) (fun _ _ _ h => h) (Or.inl ⟨by rfl, ?_⟩) hS ?_
      rotate_left
      · intro wz hz; go_simp; try with_reducible rfl
      try simp only [Act.put, List.setIfInBounds_toArray, List.set_cons_zero, List.set_cons_succ, List.getElem_toArray, List.getElem_cons_succ, List.getElem_cons_zero]
      refine wpAnyH_take (i := 3) (v := ?_) rfl (by kernel_rfl) (by kernel_rfl) (by kernel_rfl) (fun _ _ _ h => h) (Or.inl ⟨by rfl, ?_⟩) hS ?_
      rotate_left
      · intro wz hz; obtain ⟨yy0, yy1⟩ := hz; go_simp; try with_reducible rfl
      try simp only [Act.put, List.setIfInBounds_toArray, List.set_cons_zero, List.set_cons_succ, List.getElem_toArray, List.getElem_cons_succ, List.getElem_cons_zero]
      refine wpAnyH_take (i := 4) (v := ?_) rfl (by kernel_rfl) (by kernel_rfl) (by kernel_rfl) (fun _ _ _ h => h) (Or.inl ⟨by rfl, ?_⟩) hS ?_
      rotate_left
      · intro wz hz; go_simp; try with_reducible rfl
      try simp only [Act.put, List.setIfInBounds_toArray, List.set_cons_zero, List.set_cons_succ, List.getElem_toArray, List.getElem_cons_succ, List.getElem_cons_zero]
      refine wpAnyH_take (i := 5) (v := ?_) rfl (by kernel_rfl) (by kernel_rfl) (by kernel_rfl) (fun _ _ _ h => h) (Or.inl ⟨by rfl, ?_⟩) hS ?_
      rotate_left
      · intro wz hz; go_simp; try with_reducible rfl
      try simp only [Act.put, List.setIfInBounds_toArray, List.set_cons_zero, List.set_cons_succ, List.getElem_toArray, List.getElem_cons_succ, List.getElem_cons_zero]
      refine wpAnyH_take (i := 6) (v := ?_) rfl (by kernel_rfl) (by kernel_rfl) (by kernel_rfl) (fun _ _ _ h => h) (Or.inl ⟨by rfl, ?_⟩) hS ?_
      rotate_left
      · intro wz hz; go_simp; try with_reducible rfl
      try simp only [Act.put, List.setIfInBounds_toArray, List.set_cons_zero, List.set_cons_succ, List.getElem_toArray, List.getElem_cons_succ, List.getElem_cons_zero]
      refine wpAnyH_take (i := 7) (v := ?_) rfl (by kernel_rfl) (by kernel_rfl) (by kernel_rfl) (fun _ _ _ h => h) (Or.inl ⟨by rfl, ?_⟩) hS ?_
      rotate_left
      · intro wz hz; obtain ⟨yy0, yy1⟩ := hz; go_simp; try with_reducible rfl
      try simp only [Act.put, List.setIfInBounds_toArray, List.set_cons_zero, List.set_cons_succ, List.getElem_toArray, List.getElem_cons_succ, List.getElem_cons_zero]
      refine wpAnyH_take (i := 8) (v := ?_) rfl (by kernel_rfl) (by kernel_rfl) (by kernel_rfl) (fun _ _ _ h => h) (Or.inl ⟨by rfl, ?_⟩) hS ?_
      rotate_left
      · intro wz hz; go_simp; try with_reducible rfl
      try simp only [Act.put, List.setIfInBounds_toArray, List.set_cons_zero, List.set_cons_succ, List.getElem_toArray, List.getElem_cons_succ, List.getElem_cons_zero]
      refine wpAnyH_ready (rs := [9]) (by kernel_rfl) (by simp) (AllReadyH.cons rfl (fun K hK => ?a1_9) AllReadyH.nil)
      case' a1_9 =>
        obtain ⟨w4, r4, g4, ev4, gr4⟩ := PUc.out
        refine step_mapUpdate rfl _ _ _ SM rfl _ _ _ rfl rfl rfl r4 ?_
        refine hK.out _ _ (Y6.out w4 gr4) (fun hSn => ?_)
        clear hK K hS
        have hS := hSn
        clear hSn
        try simp only [Act.put, List.setIfInBounds_toArray, List.set_cons_zero, List.set_cons_succ, List.getElem_toArray, List.getElem_cons_succ, List.getElem_cons_zero]
        refine wpAnyH_done (by kernel_rfl) ?_ _
      have GTc := hid g4
      have EVc := hid (EVd.out.trans ev4)
      clear g4 ev4 gr4 r4 hS Y6 PUc EVd hs0
      go_wp2_with fail
      have x1 := HX1.out _ _ EVc.out
      have FQ2 : Hid (∀ m, Calls Tryz.prog 98 #[.pointer (some ⟨M, 2, none⟩), .int .i64 t.n] (w4.drewN m) fun r w' => r = .returned (.tuple #[.int .i64 0, .bool false]) ∧ w' = w4.drewN m) := fun m => FQ.out _ _ _ _ (EVc.out.trans (Ev.of_below (bl_drewN _ _))) (GTc.out.stays (bl_drewN _ _))
      go_quiet (first | (go_at_call 98; refine Calls.quiet_of_same (FQ2.out _)))
      go_wp2_with fail
      have EVc := hid (EVc.out.trans (Ev.of_below (bl_drewN w4 nq)))
      have GTc := hid (GTc.out.stays (bl_drewN w4 nq))
      clear FQ2 x1
      generalize w4.drewN nq = W1 at EVc GTc ⊢
      obtain ⟨C7, c7, l7, m7, PU⟩ := (GTc.out.stays (Below.refl _ _).drew).putF
      have x1 := HX1.out _ _ EVc.out
      have hMl := (GTc.out.own M (by obtain ⟨_, _, _, _, _, _, _, _, _, _, _, rfl⟩ := GTc.out; exact .inl rfl)).2
      have hbl := World.block_lt_of_cell? _ _ x1
      have Y6 : Hid (∀ w4, W1.drew.grownBy w4 (some C7) → w4.cell? ⟨M, 6, none⟩ = some (.map (some C7)) ∧ w4.cell? ⟨b, o + 1, none⟩ = some (.int .i64 t.n)) := fun w4 h => ⟨(World.cell?_of_block (w := W1) (a := ⟨M, 6, none⟩) (h.block M hMl (fun q => by have := Option.some.inj q; omega))).trans c7, (World.cell?_of_block (w := W1) (a := ⟨b, o + 1, none⟩) (h.block b hbl (fun q => by have := Option.some.inj q; omega))).trans x1⟩
      have PUc := hid (PU t.n HN.out (by have := hn2.out; omega))
      have EVd := hid EVc.out.drew
      have hs0 := hid (And.intro c7 x1)
      clear PU c7 x1 GTc EVc
      refine wp_region_held_drew (S := fun wz => wz.cell? ⟨M, 6, none⟩ = some (.map (some C7)) ∧ wz.cell? ⟨b, o + 1, none⟩ = some (.int .i64 t.n)) (by kernel_rfl) (hs0.out) (fun hS => ?_)
      generalize W1.drew = wc0 at hS  PUc Y6 EVd ⊢
      refine wpAnyH_take (i := 0) (v := ?_) rfl (by kernel_rfl) (by kernel_rfl) (by kernel_rfl) (fun _ _ _ h => h) (Or.inl ⟨by rfl, ?_⟩) hS ?_
      rotate_left
      · intro wz hz; go_simp; try with_reducible rfl
      try simp only [Act.put, List.setIfInBounds_toArray, List.set_cons_zero, List.set_cons_succ, List.getElem_toArray, List.getElem_cons_succ, List.getElem_cons_zero]
      refine wpAnyH_take (i := 1) (v := ?_) rfl (by kernel_rfl) (by kernel_rfl) (by kernel_rfl) (fun _ _ _ h => h) (Or.inl ⟨by rfl, ?_⟩) hS ?_
      rotate_left
      · intro wz hz; go_simp; try with_reducible rfl
      try simp only [Act.put, List.setIfInBounds_toArray, List.set_cons_zero, List.set_cons_succ, List.getElem_toArray, List.getElem_cons_succ, List.getElem_cons_zero]
      refine wpAnyH_take (i := 2) (v := ?_) rfl (by kernel_rfl) (by kernel_rfl) (by kernel_rfl) (fun _ _ _ h => h) (Or.inl ⟨by rfl, ?_⟩) hS ?_
      rotate_left
      · intro wz hz; go_simp; try with_reducible rfl
      try simp only [Act.put, List.setIfInBounds_toArray, List.set_cons_zero, List.set_cons_succ, List.getElem_toArray, List.getElem_cons_succ, List.getElem_cons_zero]
      refine wpAnyH_take (i := 3) (v := ?_) rfl (by kernel_rfl) (by kernel_rfl) (by kernel_rfl) (fun _ _ _ h => h) (Or.inl ⟨by rfl, ?_⟩) hS ?_
      rotate_left
      · intro wz hz; obtain ⟨yy0, yy1⟩ := hz; go_simp; try with_reducible rfl
      try simp only [Act.put, List.setIfInBounds_toArray, List.set_cons_zero, List.set_cons_succ, List.getElem_toArray, List.getElem_cons_succ, List.getElem_cons_zero]
      refine wpAnyH_take (i := 4) (v := ?_) rfl (by kernel_rfl) (by kernel_rfl) (by kernel_rfl) (fun _ _ _ h => h) (Or.inl ⟨by rfl, ?_⟩) hS ?_
      rotate_left
      · intro wz hz; go_simp; try with_reducible rfl
      try simp only [Act.put, List.setIfInBounds_toArray, List.set_cons_zero, List.set_cons_succ, List.getElem_toArray, List.getElem_cons_succ, List.getElem_cons_zero]
      refine wpAnyH_take (i := 5) (v := ?_) rfl (by kernel_rfl) (by kernel_rfl) (by kernel_rfl) (fun _ _ _ h => h) (Or.inl ⟨by rfl, ?_⟩) hS ?_
      rotate_left
      · intro wz hz; go_simp; try with_reducible rfl
      try simp only [Act.put, List.setIfInBounds_toArray, List.set_cons_zero, List.set_cons_succ, List.getElem_toArray, List.getElem_cons_succ, List.getElem_cons_zero]
      refine wpAnyH_take (i := 6) (v := ?_) rfl (by kernel_rfl) (by kernel_rfl) (by kernel_rfl) (fun _ _ _ h => h) (Or.inl ⟨by rfl, ?_⟩) hS ?_
      rotate_left
      · intro wz hz; go_simp; try with_reducible rfl
      try simp only [Act.put, List.setIfInBounds_toArray, List.set_cons_zero, List.set_cons_succ, List.getElem_toArray, List.getElem_cons_succ, List.getElem_cons_zero]
      refine wpAnyH_take (i := 7) (v := ?_) rfl (by kernel_rfl) (by kernel_rfl) (by kernel_rfl) (fun _ _ _ h => h) (Or.inl ⟨by rfl, ?_⟩) hS ?_
      rotate_left
      · intro wz hz; obtain ⟨yy0, yy1⟩ := hz; go_simp; try with_reducible rfl
      try simp only [Act.put, List.setIfInBounds_toArray, List.set_cons_zero, List.set_cons_succ, List.getElem_toArray, List.getElem_cons_succ, List.getElem_cons_zero]
      refine wpAnyH_take (i := 8) (v := ?_) rfl (by kernel_rfl) (by kernel_rfl) (by kernel_rfl) (fun _ _ _ h => h) (Or.inl ⟨by rfl, ?_⟩) hS ?_
      rotate_left
      · intro wz hz; go_simp; try with_reducible rfl
      try simp only [Act.put, List.setIfInBounds_toArray, List.set_cons_zero, List.set_cons_succ, List.getElem_toArray, List.getElem_cons_succ, List.getElem_cons_zero]
      refine wpAnyH_ready (rs := [9]) (by kernel_rfl) (by simp) (AllReadyH.cons rfl (fun K hK => ?a2_9) AllReadyH.nil)
      case' a2_9 =>
        obtain ⟨w4, r4, g4, ev4, gr4⟩ := PUc.out
        refine step_mapUpdate rfl _ _ _ SM rfl _ _ _ rfl rfl rfl r4 ?_
        refine hK.out _ _ (Y6.out w4 gr4) (fun hSn => ?_)
        clear hK K hS
        have hS := hSn
        clear hSn
        try simp only [Act.put, List.setIfInBounds_toArray, List.set_cons_zero, List.set_cons_succ, List.getElem_toArray, List.getElem_cons_succ, List.getElem_cons_zero]
        refine wpAnyH_done (by kernel_rfl) ?_ _
      have GTc := hid g4
      have EVc := hid (EVd.out.trans ev4)
      clear g4 ev4 gr4 r4 hS Y6 PUc EVd hs0
      go_wp2_with fail
      have GT2 := GTc
      have EV2 := EVc
      have HF2 : Hid (∀ x, FF x = ((F x || x == t.n) || Tt.fvL t.ks (t.env e) x)) := fun x => by
        rw [HF.out x, Bool.or_assoc]
        by_cases hx : t.n = x
        · subst hx; rw [HLK.out]; simp
        · have q1 : (t.n == x) = false := by simpa using hx
          have q2 : (x == t.n) = false := by simpa using fun e => hx e.symm
          rw [q1, q2]; simp
      have HA2 : Hid (∀ x, AA x = ((A x || x == t.n) || Tt.avL t.ks x)) := fun x => by
        rw [HA.out x, Bool.or_assoc]
        congr 2
        exact Bool.eq_iff_iff.2 (by simp only [beq_iff_eq]; exact eq_comm)
      have HN2 : Hid (n + 1 + 1 ≤ n + 2) := Nat.le_refl _
      clear GTc EVc HF HA GT0 FQ
      generalize hF2 : (fun x => F x || x == t.n) = F2 at GT2
      generalize hA2 : (fun x => A x || x == t.n) = A2 at GT2
      have HF2 : Hid (∀ x, FF x = (F2 x || Tt.fvL t.ks (t.env e) x)) := fun x => by rw [← hF2]; exact HF2.out x
      have HA2 : Hid (∀ x, AA x = (A2 x || Tt.avL t.ks x)) := fun x => by rw [← hA2]; exact HA2.out x
      clear hF2 hA2
      have IQ := hid (intoG L M w4 own e F2 A2 (n + 1 + 1) (k + 1) b o t GT2.out (HP.out _ _ EV2.out) hLM (by have := HN2.out; have := HB.out.2.2; omega) (by have := HB.out.2.1; omega))
      have hkl : t.ks.length ≤ 9223372036854775807 := HKL.out
      go_wp2_with (first
        | (go_at_call 54; refine (IQ.out).mono ?_; rintro r w3 ⟨rfl, own3, hG3, hE3⟩; have G3 := hid (hG3.stays (bl_alloc (Below.refl _ _) (.cells #[.int .i64 e.length, .int .i64 0] 129))); have E3 := hid ((EV2.out.trans hE3).alloc (.cells #[.int .i64 e.length, .int .i64 0] 129)); have B3 := hid (Bx.new (n0 := w.heap.size) (w := w3) 129 [.int .i64 e.length, .int .i64 0] (fun b hb => (hG3.own b hb).2) (EV2.out.trans hE3).size); have z3 := HX3.out _ _ E3.out; clear hG3 hE3))
      generalize w3.alloc (.cells #[.int .i64 e.length, .int .i64 0] 129) = W3 at G3 E3 B3 z3 ⊢
      generalize w3.heap.size = pB at B3 ⊢
      clear z3 hkl
      go_loopw [68] (fun v wr => ∃ (i n' : Nat) (own' : Nat → Prop) (F' A' : Int → Bool), v = .int .i64 i ∧ i ≤ t.ks.length ∧ Hid (Gt L M wr own' (t.env e) F' A' n') ∧ Hid (Ev own w own' wr) ∧ Hid (Bx w.heap.size wr own' pB 129 [.int .i64 e.length, .int .i64 0]) ∧ Hid (∀ x, FF x = (F' x || Tt.fvL (t.ks.drop i) (t.env e) x)) ∧ Hid (∀ x, AA x = (A' x || Tt.avL (t.ks.drop i) x)) ∧ Hid (n' + Tt.cntL (t.ks.drop i) * 8388608 ≤ n + 3 + Tt.cntL t.ks * 8388608 ∧ Tt.cntL (t.ks.drop i) ≤ Tt.cntL t.ks ∧ Tt.deepestL (t.ks.drop i) ≤ Tt.deepestL t.ks)) (fun v _ => t.ks.length - (intOf v).toNat)
      case atStart => exact ⟨0, (n + 1 + 1) + 1, own3, F2, A2, rfl, Nat.zero_le _, G3, E3, B3, HF2, HA2, hid (by have := HN2.out; refine ⟨?_, ?_, ?_⟩ <;> (try rw [List.drop_zero]) <;> omega)⟩
      case round =>
        obtain ⟨i, n', own', F', A', rfl, hil, hGr, hEr, hBr, hFr, hAr, hnr⟩ := hrel
        clear G3 E3 B3 HF2 HA2 IQ GT2 EV2
        have hkl : t.ks.length ≤ 9223372036854775807 := HKL.out
        by_cases hlt : i < t.ks.length
        · obtain ⟨x, hxi⟩ : ∃ x, t.ks[i]? = some x := ⟨_, List.getElem?_eq_getElem hlt⟩
          obtain ⟨kb, ko, rfl, hPx⟩ := (HLs.out _ _ hEr.out).elem hxi
          have z3 := HX3.out _ _ hEr.out
          have HC : Hid (Tt.cntL (t.ks.drop i) = x.cnt + Tt.cntL (t.ks.drop (i + 1)) ∧ Tt.deepestL (t.ks.drop i) = max x.deepest (Tt.deepestL (t.ks.drop (i + 1)))) := ⟨Tt.cntL_drop hxi, Tt.deepestL_drop hxi⟩
          have HF3 : Hid (∀ y, FF y = ((F' y || x.fv (t.env e) y) || Tt.fvL (t.ks.drop (i + 1)) (t.env e) y)) := fun y => by rw [hFr.out y, Tt.fvL_drop hxi, Bool.or_assoc]
          have HA3 : Hid (∀ y, AA y = ((A' y || x.av y) || Tt.avL (t.ks.drop (i + 1)) y)) := fun y => by rw [hAr.out y, Tt.avL_drop hxi, Bool.or_assoc]
          have HQ := hid (HIH.out wr own' (t.env e) F' A' n' kb _ x hGr.out hPx (by have := (env_len t e).2.1; have := HB.out; have := HC.out; have := hnr.out; omega) (by have := HB.out; have := HC.out; have := hnr.out; omega))
          have hlt2 : (i : Int) < t.ks.length := by omega
          clear hPx hxi hFr hAr
          go_wp2_with (go_at_call 70; refine (HQ.out).mono ?_; rintro r w4 ⟨rfl, own4, hG4, hE4⟩)
          go_roundw
          case rel => exact ⟨i + 1, n' + x.cnt * 8388608, own4, _, _, by go_num, by omega, hid hG4, hid (hEr.out.trans hE4), hid (hBr.out.ev hE4), HF3, HA3, hid (by have := hnr.out; have := HC.out; refine ⟨?_, ?_, ?_⟩ <;> omega)⟩
          case measure => simp [intOf]; omega
        · have hd : t.ks.drop i = [] := List.drop_eq_nil_of_le (by omega)
          have HFF : Hid (F' = FF) := by show _ = _; funext y; rw [hFr.out y, hd, Tt.fvL]; simp
          have HAA : Hid (A' = AA) := by show _ = _; funext y; rw [hAr.out y, hd, Tt.avL]; simp
          have hlt2 : ¬ (i : Int) < t.ks.length := by omega
          have BQ := hid (backG L M wr.drew own' e F' A' n' t (hGr.out.stays (Below.refl _ _).drew) (by have := HB.out; have := hnr.out; omega))
          have k6 := hBr.out.arr.cell
          clear hFr hAr hd
          go_wp2_with fail
          go_region_with (go_at_call 56; refine (BQ.out).mono ?_; rintro r w5 ⟨rfl, own5, hG5, hE5⟩)
          go_wp2_with fail
          go_end0
          exact ⟨rfl, own5, by rw [HFF.out, HAA.out] at hG5; exact hG5.up (by have := HB.out; have := hnr.out; omega), hEr.out.drew.trans hE5⟩
    | some a =>
      have FQ : Hid (∀ wz own' A' n', Ev own w own' wz → Gt L M wz own' e F A' n' → Calls Tryz.prog 98 #[.pointer (some ⟨M, 2, none⟩), .int .i64 t.n] wz fun r w' => r = .returned (.tuple #[.int .i64 a, .bool true]) ∧ w' = wz) := fun wz own' A' n' _ h => by
        have := findG L M wz own' e F A' n' t.n HN.out h
        rw [hlk] at this
        exact this
      have HLK := hid hlk
      clear hlk
      have GTc := GT0
      have EVc : Hid (Ev own w own w) := Ev.refl _ _
      go_enter Tryz.func70, Tryz.ntmps70
      go_wp2_with fail
      obtain ⟨C7, c7, l7, m7, PU⟩ := (GTc.out.stays (Below.refl _ _).drew).putA
      have x1 := HX1.out _ _ EVc.out
      have hMl := (GTc.out.own M (by obtain ⟨_, _, _, _, _, _, _, _, _, _, _, rfl⟩ := GTc.out; exact .inl rfl)).2
      have hbl := World.block_lt_of_cell? _ _ x1
      have Y6 : Hid (∀ w4, w.drew.grownBy w4 (some C7) → w4.cell? ⟨M, 7, none⟩ = some (.map (some C7)) ∧ w4.cell? ⟨b, o + 1, none⟩ = some (.int .i64 t.n)) := fun w4 h => ⟨(World.cell?_of_block (w := w) (a := ⟨M, 7, none⟩) (h.block M hMl (fun q => by have := Option.some.inj q; omega))).trans c7, (World.cell?_of_block (w := w) (a := ⟨b, o + 1, none⟩) (h.block b hbl (fun q => by have := Option.some.inj q; omega))).trans x1⟩
      have PUc := hid (PU t.n HN.out (by have := hn2.out; omega))
      have EVd := hid EVc.out.drew
      have hs0 := hid (And.intro c7 x1)
      clear PU c7 x1 GTc EVc
      refine wp_region_held_drew (S := fun wz => wz.cell? ⟨M, 7, none⟩ = some (.map (some C7)) ∧ wz.cell? ⟨b, o + 1, none⟩ = some (.int .i64 t.n)) (by kernel_rfl) (hs0.out) (fun hS => ?_)
      generalize w.drew = wc0 at hS  PUc Y6 EVd ⊢
      refine wpAnyH_take (i := 0) (v := ?_) rfl (by kernel_rfl) (by kernel_rfl) (by kernel_rfl) (fun _ _ _ h => h) (Or.inl ⟨by rfl, ?_⟩) hS ?_
      rotate_left
      · intro wz hz; go_simp; try with_reducible rfl
      try simp only [Act.put, List.setIfInBounds_toArray, List.set_cons_zero, List.set_cons_succ, List.getElem_toArray, List.getElem_cons_succ, List.getElem_cons_zero]
      refine wpAnyH_take (i := 1) (v := ?_) rfl (by kernel_rfl) (by kernel_rfl) (by kernel_rfl) (fun _ _ _ h => h) (Or.inl ⟨by rfl, ?_⟩) hS ?_
      rotate_left
      · intro wz hz; go_simp; try with_reducible rfl
      try simp only [Act.put, List.setIfInBounds_toArray, List.set_cons_zero, List.set_cons_succ, List.getElem_toArray, List.getElem_cons_succ, List.getElem_cons_zero]
      refine wpAnyH_take (i := 2) (v := ?_) rfl (by kernel_rfl) (by kernel_rfl) (by kernel_rfl) (fun _ _ _ h => h) (Or.inl ⟨by rfl, ?_⟩) hS ?_
      rotate_left
      · intro wz hz; go_simp; try with_reducible rfl
      try simp only [Act.put, List.setIfInBounds_toArray, List.set_cons_zero, List.set_cons_succ, List.getElem_toArray, List.getElem_cons_succ, List.getElem_cons_zero]
      refine wpAnyH_take (i := 3) (v := ?_) rfl (by kernel_rfl) (by kernel_rfl) (by kernel_rfl) (fun _ _ _ h => h) (Or.inl ⟨by rfl, ?_⟩) hS ?_
      rotate_left
      · intro wz hz; obtain ⟨yy0, yy1⟩ := hz; go_simp; try with_reducible rfl
      try simp only [Act.put, List.setIfInBounds_toArray, List.set_cons_zero, List.set_cons_succ, List.getElem_toArray, List.getElem_cons_succ, List.getElem_cons_zero]
      refine wpAnyH_take (i := 4) (v := ?_) rfl (by kernel_rfl) (by kernel_rfl) (by kernel_rfl) (fun _ _ _ h => h) (Or.inl ⟨by rfl, ?_⟩) hS ?_
      rotate_left
      · intro wz hz; go_simp; try with_reducible rfl
      try simp only [Act.put, List.setIfInBounds_toArray, List.set_cons_zero, List.set_cons_succ, List.getElem_toArray, List.getElem_cons_succ, List.getElem_cons_zero]
      refine wpAnyH_take (i := 5) (v := ?_) rfl (by kernel_rfl) (by kernel_rfl) (by kernel_rfl) (fun _ _ _ h => h) (Or.inl ⟨by rfl, ?_⟩) hS ?_
      rotate_left
      · intro wz hz; go_simp; try with_reducible rfl
      try simp only [Act.put, List.setIfInBounds_toArray, List.set_cons_zero, List.set_cons_succ, List.getElem_toArray, List.getElem_cons_succ, List.getElem_cons_zero]
      refine wpAnyH_take (i := 6) (v := ?_) rfl (by kernel_rfl) (by kernel_rfl) (by kernel_rfl) (fun _ _ _ h => h) (Or.inl ⟨by rfl, ?_⟩) hS ?_
      rotate_left
      · intro wz hz; go_simp; try with_reducible rfl
      try simp only [Act.put, List.setIfInBounds_toArray, List.set_cons_zero, List.set_cons_succ, List.getElem_toArray, List.getElem_cons_succ, List.getElem_cons_zero]
      refine wpAnyH_take (i := 7) (v := ?_) rfl (by kernel_rfl) (by kernel_rfl) (by kernel_rfl) (fun _ _ _ h => h) (Or.inl ⟨by rfl, ?_⟩) hS ?_
      rotate_left
      · intro wz hz; obtain ⟨yy0, yy1⟩ := hz; go_simp; try with_reducible rfl
      try simp only [Act.put, List.setIfInBounds_toArray, List.set_cons_zero, List.set_cons_succ, List.getElem_toArray, List.getElem_cons_succ, List.getElem_cons_zero]
      refine wpAnyH_take (i := 8) (v := ?_) rfl (by kernel_rfl) (by kernel_rfl) (by kernel_rfl) (fun _ _ _ h => h) (Or.inl ⟨by rfl, ?_⟩) hS ?_
      rotate_left
      · intro wz hz; go_simp; try with_reducible rfl
      try simp only [Act.put, List.setIfInBounds_toArray, List.set_cons_zero, List.set_cons_succ, List.getElem_toArray, List.getElem_cons_succ, List.getElem_cons_zero]
      refine wpAnyH_ready (rs := [9]) (by kernel_rfl) (by simp) (AllReadyH.cons rfl (fun K hK => ?a3_9) AllReadyH.nil)
      case' a3_9 =>
        obtain ⟨w4, r4, g4, ev4, gr4⟩ := PUc.out
        refine step_mapUpdate rfl _ _ _ SM rfl _ _ _ rfl rfl rfl r4 ?_
        refine hK.out _ _ (Y6.out w4 gr4) (fun hSn => ?_)
        clear hK K hS
        have hS := hSn
        clear hSn
        try simp only [Act.put, List.setIfInBounds_toArray, List.set_cons_zero, List.set_cons_succ, List.getElem_toArray, List.getElem_cons_succ, List.getElem_cons_zero]
        refine wpAnyH_done (by kernel_rfl) ?_ _
      have GTc := hid g4
      have EVc := hid (EVd.out.trans ev4)
      clear g4 ev4 gr4 r4 hS Y6 PUc EVd hs0
      go_wp2_with fail
      have x1 := HX1.out _ _ EVc.out
      have FQ2 : Hid (∀ m, Calls Tryz.prog 98 #[.pointer (some ⟨M, 2, none⟩), .int .i64 t.n] (w4.drewN m) fun r w' => r = .returned (.tuple #[.int .i64 a, .bool true]) ∧ w' = w4.drewN m) := fun m => FQ.out _ _ _ _ (EVc.out.trans (Ev.of_below (bl_drewN _ _))) (GTc.out.stays (bl_drewN _ _))
      go_quiet (first | (go_at_call 98; refine Calls.quiet_of_same (FQ2.out _)))
      have EV2 := hid (EVc.out.trans (Ev.of_below (bl_drewN w4 nq)))
      have GT2 := hid (GTc.out.stays (bl_drewN w4 nq))
      clear FQ2 x1 EVc GTc
      generalize w4.drewN nq = W1 at EV2 GT2 ⊢
      have HF2 : Hid (∀ x, FF x = (F x || Tt.fvL t.ks (t.env e) x)) := fun x => by
        rw [HF.out x]
        by_cases hx : t.n = x
        · subst hx; rw [HLK.out]; simp
        · have q1 : (t.n == x) = false := by simpa using hx
          rw [q1]; simp
      have HA2 : Hid (∀ x, AA x = ((A x || x == t.n) || Tt.avL t.ks x)) := fun x => by
        rw [HA.out x, Bool.or_assoc]
        congr 2
        exact Bool.eq_iff_iff.2 (by simp only [beq_iff_eq]; exact eq_comm)
      have HN2 : Hid (n + 1 ≤ n + 2) := Nat.le_succ _
      clear HF HA GT0 FQ
      generalize hA2 : (fun x => A x || x == t.n) = A2 at GT2
      have HA2 : Hid (∀ x, AA x = (A2 x || Tt.avL t.ks x)) := fun x => by rw [← hA2]; exact HA2.out x
      clear hA2
      have IQ := hid (intoG L M W1 own e F A2 (n + 1) (k + 1) b o t GT2.out (HP.out _ _ EV2.out) hLM (by have := HN2.out; have := HB.out.2.2; omega) (by have := HB.out.2.1; omega))
      have hkl : t.ks.length ≤ 9223372036854775807 := HKL.out
      go_wp2_with (first
        | (go_at_call 54; refine (IQ.out).mono ?_; rintro r w3 ⟨rfl, own3, hG3, hE3⟩; have G3 := hid (hG3.stays (bl_alloc (Below.refl _ _) (.cells #[.int .i64 e.length, .int .i64 0] 129))); have E3 := hid ((EV2.out.trans hE3).alloc (.cells #[.int .i64 e.length, .int .i64 0] 129)); have B3 := hid (Bx.new (n0 := w.heap.size) (w := w3) 129 [.int .i64 e.length, .int .i64 0] (fun b hb => (hG3.own b hb).2) (EV2.out.trans hE3).size); have z3 := HX3.out _ _ E3.out; clear hG3 hE3))
      generalize w3.alloc (.cells #[.int .i64 e.length, .int .i64 0] 129) = W3 at G3 E3 B3 z3 ⊢
      generalize w3.heap.size = pB at B3 ⊢
      clear z3 hkl
      go_loopw [68] (fun v wr => ∃ (i n' : Nat) (own' : Nat → Prop) (F' A' : Int → Bool), v = .int .i64 i ∧ i ≤ t.ks.length ∧ Hid (Gt L M wr own' (t.env e) F' A' n') ∧ Hid (Ev own w own' wr) ∧ Hid (Bx w.heap.size wr own' pB 129 [.int .i64 e.length, .int .i64 0]) ∧ Hid (∀ x, FF x = (F' x || Tt.fvL (t.ks.drop i) (t.env e) x)) ∧ Hid (∀ x, AA x = (A' x || Tt.avL (t.ks.drop i) x)) ∧ Hid (n' + Tt.cntL (t.ks.drop i) * 8388608 ≤ n + 3 + Tt.cntL t.ks * 8388608 ∧ Tt.cntL (t.ks.drop i) ≤ Tt.cntL t.ks ∧ Tt.deepestL (t.ks.drop i) ≤ Tt.deepestL t.ks)) (fun v _ => t.ks.length - (intOf v).toNat)
      case atStart => exact ⟨0, (n + 1) + 1, own3, F, A2, rfl, Nat.zero_le _, G3, E3, B3, HF2, HA2, hid (by have := HN2.out; refine ⟨?_, ?_, ?_⟩ <;> (try rw [List.drop_zero]) <;> omega)⟩
      case round =>
        obtain ⟨i, n', own', F', A', rfl, hil, hGr, hEr, hBr, hFr, hAr, hnr⟩ := hrel
        clear G3 E3 B3 HF2 HA2 IQ GT2 EV2
        have hkl : t.ks.length ≤ 9223372036854775807 := HKL.out
        by_cases hlt : i < t.ks.length
        · obtain ⟨x, hxi⟩ : ∃ x, t.ks[i]? = some x := ⟨_, List.getElem?_eq_getElem hlt⟩
          obtain ⟨kb, ko, rfl, hPx⟩ := (HLs.out _ _ hEr.out).elem hxi
          have z3 := HX3.out _ _ hEr.out
          have HC : Hid (Tt.cntL (t.ks.drop i) = x.cnt + Tt.cntL (t.ks.drop (i + 1)) ∧ Tt.deepestL (t.ks.drop i) = max x.deepest (Tt.deepestL (t.ks.drop (i + 1)))) := ⟨Tt.cntL_drop hxi, Tt.deepestL_drop hxi⟩
          have HF3 : Hid (∀ y, FF y = ((F' y || x.fv (t.env e) y) || Tt.fvL (t.ks.drop (i + 1)) (t.env e) y)) := fun y => by rw [hFr.out y, Tt.fvL_drop hxi, Bool.or_assoc]
          have HA3 : Hid (∀ y, AA y = ((A' y || x.av y) || Tt.avL (t.ks.drop (i + 1)) y)) := fun y => by rw [hAr.out y, Tt.avL_drop hxi, Bool.or_assoc]
          have HQ := hid (HIH.out wr own' (t.env e) F' A' n' kb _ x hGr.out hPx (by have := (env_len t e).2.1; have := HB.out; have := HC.out; have := hnr.out; omega) (by have := HB.out; have := HC.out; have := hnr.out; omega))
          have hlt2 : (i : Int) < t.ks.length := by omega
          clear hPx hxi hFr hAr
          go_wp2_with (go_at_call 70; refine (HQ.out).mono ?_; rintro r w4 ⟨rfl, own4, hG4, hE4⟩)
          go_roundw
          case rel => exact ⟨i + 1, n' + x.cnt * 8388608, own4, _, _, by go_num, by omega, hid hG4, hid (hEr.out.trans hE4), hid (hBr.out.ev hE4), HF3, HA3, hid (by have := hnr.out; have := HC.out; refine ⟨?_, ?_, ?_⟩ <;> omega)⟩
          case measure => simp [intOf]; omega
        · have hd : t.ks.drop i = [] := List.drop_eq_nil_of_le (by omega)
          have HFF : Hid (F' = FF) := by show _ = _; funext y; rw [hFr.out y, hd, Tt.fvL]; simp
          have HAA : Hid (A' = AA) := by show _ = _; funext y; rw [hAr.out y, hd, Tt.avL]; simp
          have hlt2 : ¬ (i : Int) < t.ks.length := by omega
          have BQ := hid (backG L M wr.drew own' e F' A' n' t (hGr.out.stays (Below.refl _ _).drew) (by have := HB.out; have := hnr.out; omega))
          have k6 := hBr.out.arr.cell
          clear hFr hAr hd
          go_wp2_with fail
          go_region_with (go_at_call 56; refine (BQ.out).mono ?_; rintro r w5 ⟨rfl, own5, hG5, hE5⟩)
          go_wp2_with fail
          go_end0
          exact ⟨rfl, own5, by rw [HFF.out, HAA.out] at hG5; exact hG5.up (by have := HB.out; have := hnr.out; omega), hEr.out.drew.trans hE5⟩
  · have g6 : (t.k == 6) = false := by simpa using h6
    rw [g6] at HF HA
    simp only [Bool.false_and, Bool.false_or] at HF HA
    clear h6
    have BQ0 : Hid (∀ wz own', Ev own w own' wz → Calls Tryz.prog 90 #[.pointer (some ⟨b, o, none⟩)] wz fun r w' => r = .returned (.bool t.binds) ∧ w' = wz) := fun wz own' hz => binds_any wz _ _ b o t (HP.out wz own' hz)
    cases hbn : t.binds with
    | true =>
      rw [hbn] at BQ0 HA
      simp only [Bool.true_and] at HA
      clear hbn
      have GTc := GT0
      have EVc : Hid (Ev own w own w) := Ev.refl _ _
      go_enter Tryz.func70, Tryz.ntmps70
      go_wp2_with (go_at_call 90; refine (BQ0.out w own (Ev.refl _ _)).mono ?_; rintro r w3 ⟨rfl, hw⟩; rw [hw]; clear hw w3)
      obtain ⟨C7, c7, l7, m7, PU⟩ := (GTc.out.stays (Below.refl _ _).drew).putA
      have x1 := HX1.out _ _ EVc.out
      have hMl := (GTc.out.own M (by obtain ⟨_, _, _, _, _, _, _, _, _, _, _, rfl⟩ := GTc.out; exact .inl rfl)).2
      have hbl := World.block_lt_of_cell? _ _ x1
      have Y6 : Hid (∀ w4, w.drew.grownBy w4 (some C7) → w4.cell? ⟨M, 7, none⟩ = some (.map (some C7)) ∧ w4.cell? ⟨b, o + 1, none⟩ = some (.int .i64 t.n)) := fun w4 h => ⟨(World.cell?_of_block (w := w) (a := ⟨M, 7, none⟩) (h.block M hMl (fun q => by have := Option.some.inj q; omega))).trans c7, (World.cell?_of_block (w := w) (a := ⟨b, o + 1, none⟩) (h.block b hbl (fun q => by have := Option.some.inj q; omega))).trans x1⟩
      have PUc := hid (PU t.n HN.out (by have := hn2.out; omega))
      have EVd := hid EVc.out.drew
      have hs0 := hid (And.intro c7 x1)
      clear PU c7 x1 GTc EVc
      refine wp_region_held_drew (S := fun wz => wz.cell? ⟨M, 7, none⟩ = some (.map (some C7)) ∧ wz.cell? ⟨b, o + 1, none⟩ = some (.int .i64 t.n)) (by kernel_rfl) (hs0.out) (fun hS => ?_)
      generalize w.drew = wc0 at hS  PUc Y6 EVd ⊢
      refine wpAnyH_take (i := 0) (v := ?_) rfl (by kernel_rfl) (by kernel_rfl) (by kernel_rfl) (fun _ _ _ h => h) (Or.inl ⟨by rfl, ?_⟩) hS ?_
      rotate_left
      · intro wz hz; go_simp; try with_reducible rfl
      try simp only [Act.put, List.setIfInBounds_toArray, List.set_cons_zero, List.set_cons_succ, List.getElem_toArray, List.getElem_cons_succ, List.getElem_cons_zero]
      refine wpAnyH_take (i := 1) (v := ?_) rfl (by kernel_rfl) (by kernel_rfl) (by kernel_rfl) (fun _ _ _ h => h) (Or.inl ⟨by rfl, ?_⟩) hS ?_
      rotate_left
      · intro wz hz; go_simp; try with_reducible rfl
      try simp only [Act.put, List.setIfInBounds_toArray, List.set_cons_zero, List.set_cons_succ, List.getElem_toArray, List.getElem_cons_succ, List.getElem_cons_zero]
      refine wpAnyH_take (i := 2) (v := ?_) rfl (by kernel_rfl) (by kernel_rfl) (by kernel_rfl) (fun _ _ _ h => h) (Or.inl ⟨by rfl, ?_⟩) hS ?_
      rotate_left
      · intro wz hz; go_simp; try with_reducible rfl
      try simp only [Act.put, List.setIfInBounds_toArray, List.set_cons_zero, List.set_cons_succ, List.getElem_toArray, List.getElem_cons_succ, List.getElem_cons_zero]
      refine wpAnyH_take (i := 3) (v := ?_) rfl (by kernel_rfl) (by kernel_rfl) (by kernel_rfl) (fun _ _ _ h => h) (Or.inl ⟨by rfl, ?_⟩) hS ?_
      rotate_left
      · intro wz hz; obtain ⟨yy0, yy1⟩ := hz; go_simp; try with_reducible rfl
      try simp only [Act.put, List.setIfInBounds_toArray, List.set_cons_zero, List.set_cons_succ, List.getElem_toArray, List.getElem_cons_succ, List.getElem_cons_zero]
      refine wpAnyH_take (i := 4) (v := ?_) rfl (by kernel_rfl) (by kernel_rfl) (by kernel_rfl) (fun _ _ _ h => h) (Or.inl ⟨by rfl, ?_⟩) hS ?_
      rotate_left
      · intro wz hz; go_simp; try with_reducible rfl
      try simp only [Act.put, List.setIfInBounds_toArray, List.set_cons_zero, List.set_cons_succ, List.getElem_toArray, List.getElem_cons_succ, List.getElem_cons_zero]
      refine wpAnyH_take (i := 5) (v := ?_) rfl (by kernel_rfl) (by kernel_rfl) (by kernel_rfl) (fun _ _ _ h => h) (Or.inl ⟨by rfl, ?_⟩) hS ?_
      rotate_left
      · intro wz hz; go_simp; try with_reducible rfl
      try simp only [Act.put, List.setIfInBounds_toArray, List.set_cons_zero, List.set_cons_succ, List.getElem_toArray, List.getElem_cons_succ, List.getElem_cons_zero]
      refine wpAnyH_take (i := 6) (v := ?_) rfl (by kernel_rfl) (by kernel_rfl) (by kernel_rfl) (fun _ _ _ h => h) (Or.inl ⟨by rfl, ?_⟩) hS ?_
      rotate_left
      · intro wz hz; go_simp; try with_reducible rfl
      try simp only [Act.put, List.setIfInBounds_toArray, List.set_cons_zero, List.set_cons_succ, List.getElem_toArray, List.getElem_cons_succ, List.getElem_cons_zero]
      refine wpAnyH_take (i := 7) (v := ?_) rfl (by kernel_rfl) (by kernel_rfl) (by kernel_rfl) (fun _ _ _ h => h) (Or.inl ⟨by rfl, ?_⟩) hS ?_
      rotate_left
      · intro wz hz; obtain ⟨yy0, yy1⟩ := hz; go_simp; try with_reducible rfl
      try simp only [Act.put, List.setIfInBounds_toArray, List.set_cons_zero, List.set_cons_succ, List.getElem_toArray, List.getElem_cons_succ, List.getElem_cons_zero]
      refine wpAnyH_take (i := 8) (v := ?_) rfl (by kernel_rfl) (by kernel_rfl) (by kernel_rfl) (fun _ _ _ h => h) (Or.inl ⟨by rfl, ?_⟩) hS ?_
      rotate_left
      · intro wz hz; go_simp; try with_reducible rfl
      try simp only [Act.put, List.setIfInBounds_toArray, List.set_cons_zero, List.set_cons_succ, List.getElem_toArray, List.getElem_cons_succ, List.getElem_cons_zero]
      refine wpAnyH_ready (rs := [9]) (by kernel_rfl) (by simp) (AllReadyH.cons rfl (fun K hK => ?a4_9) AllReadyH.nil)
      case' a4_9 =>
        obtain ⟨w4, r4, g4, ev4, gr4⟩ := PUc.out
        refine step_mapUpdate rfl _ _ _ SM rfl _ _ _ rfl rfl rfl r4 ?_
        refine hK.out _ _ (Y6.out w4 gr4) (fun hSn => ?_)
        clear hK K hS
        have hS := hSn
        clear hSn
        try simp only [Act.put, List.setIfInBounds_toArray, List.set_cons_zero, List.set_cons_succ, List.getElem_toArray, List.getElem_cons_succ, List.getElem_cons_zero]
        refine wpAnyH_done (by kernel_rfl) ?_ _
      have GTc := hid g4
      have EVc := hid (EVd.out.trans ev4)
      clear g4 ev4 gr4 r4 hS Y6 PUc EVd hs0
      go_wp2_with fail
      have GT2 := GTc
      have EV2 := EVc
      have HF2 : Hid (∀ x, FF x = (F x || Tt.fvL t.ks (t.env e) x)) := HF
      have HA2 : Hid (∀ x, AA x = ((A x || x == t.n) || Tt.avL t.ks x)) := fun x => by
        rw [HA.out x, Bool.or_assoc]
        congr 2
        exact Bool.eq_iff_iff.2 (by simp only [beq_iff_eq]; exact eq_comm)
      have HN2 : Hid (n + 1 ≤ n + 2) := Nat.le_succ _
      clear HF HA GT0 GTc EVc BQ0
      generalize hA2 : (fun x => A x || x == t.n) = A2 at GT2
      have HA2 : Hid (∀ x, AA x = (A2 x || Tt.avL t.ks x)) := fun x => by rw [← hA2]; exact HA2.out x
      clear hA2
      have IQ := hid (intoG L M w4 own e F A2 (n + 1) (k + 1) b o t GT2.out (HP.out _ _ EV2.out) hLM (by have := HN2.out; have := HB.out.2.2; omega) (by have := HB.out.2.1; omega))
      have hkl : t.ks.length ≤ 9223372036854775807 := HKL.out
      go_wp2_with (first
        | (go_at_call 54; refine (IQ.out).mono ?_; rintro r w3 ⟨rfl, own3, hG3, hE3⟩; have G3 := hid (hG3.stays (bl_alloc (Below.refl _ _) (.cells #[.int .i64 e.length, .int .i64 0] 129))); have E3 := hid ((EV2.out.trans hE3).alloc (.cells #[.int .i64 e.length, .int .i64 0] 129)); have B3 := hid (Bx.new (n0 := w.heap.size) (w := w3) 129 [.int .i64 e.length, .int .i64 0] (fun b hb => (hG3.own b hb).2) (EV2.out.trans hE3).size); have z3 := HX3.out _ _ E3.out; clear hG3 hE3))
      generalize w3.alloc (.cells #[.int .i64 e.length, .int .i64 0] 129) = W3 at G3 E3 B3 z3 ⊢
      generalize w3.heap.size = pB at B3 ⊢
      clear z3 hkl
      go_loopw [68] (fun v wr => ∃ (i n' : Nat) (own' : Nat → Prop) (F' A' : Int → Bool), v = .int .i64 i ∧ i ≤ t.ks.length ∧ Hid (Gt L M wr own' (t.env e) F' A' n') ∧ Hid (Ev own w own' wr) ∧ Hid (Bx w.heap.size wr own' pB 129 [.int .i64 e.length, .int .i64 0]) ∧ Hid (∀ x, FF x = (F' x || Tt.fvL (t.ks.drop i) (t.env e) x)) ∧ Hid (∀ x, AA x = (A' x || Tt.avL (t.ks.drop i) x)) ∧ Hid (n' + Tt.cntL (t.ks.drop i) * 8388608 ≤ n + 3 + Tt.cntL t.ks * 8388608 ∧ Tt.cntL (t.ks.drop i) ≤ Tt.cntL t.ks ∧ Tt.deepestL (t.ks.drop i) ≤ Tt.deepestL t.ks)) (fun v _ => t.ks.length - (intOf v).toNat)
      case atStart => exact ⟨0, (n + 1) + 1, own3, F, A2, rfl, Nat.zero_le _, G3, E3, B3, HF2, HA2, hid (by have := HN2.out; refine ⟨?_, ?_, ?_⟩ <;> (try rw [List.drop_zero]) <;> omega)⟩
      case round =>
        obtain ⟨i, n', own', F', A', rfl, hil, hGr, hEr, hBr, hFr, hAr, hnr⟩ := hrel
        clear G3 E3 B3 HF2 HA2 IQ GT2 EV2
        have hkl : t.ks.length ≤ 9223372036854775807 := HKL.out
        by_cases hlt : i < t.ks.length
        · obtain ⟨x, hxi⟩ : ∃ x, t.ks[i]? = some x := ⟨_, List.getElem?_eq_getElem hlt⟩
          obtain ⟨kb, ko, rfl, hPx⟩ := (HLs.out _ _ hEr.out).elem hxi
          have z3 := HX3.out _ _ hEr.out
          have HC : Hid (Tt.cntL (t.ks.drop i) = x.cnt + Tt.cntL (t.ks.drop (i + 1)) ∧ Tt.deepestL (t.ks.drop i) = max x.deepest (Tt.deepestL (t.ks.drop (i + 1)))) := ⟨Tt.cntL_drop hxi, Tt.deepestL_drop hxi⟩
          have HF3 : Hid (∀ y, FF y = ((F' y || x.fv (t.env e) y) || Tt.fvL (t.ks.drop (i + 1)) (t.env e) y)) := fun y => by rw [hFr.out y, Tt.fvL_drop hxi, Bool.or_assoc]
          have HA3 : Hid (∀ y, AA y = ((A' y || x.av y) || Tt.avL (t.ks.drop (i + 1)) y)) := fun y => by rw [hAr.out y, Tt.avL_drop hxi, Bool.or_assoc]
          have HQ := hid (HIH.out wr own' (t.env e) F' A' n' kb _ x hGr.out hPx (by have := (env_len t e).2.1; have := HB.out; have := HC.out; have := hnr.out; omega) (by have := HB.out; have := HC.out; have := hnr.out; omega))
          have hlt2 : (i : Int) < t.ks.length := by omega
          clear hPx hxi hFr hAr
          go_wp2_with (go_at_call 70; refine (HQ.out).mono ?_; rintro r w4 ⟨rfl, own4, hG4, hE4⟩)
          go_roundw
          case rel => exact ⟨i + 1, n' + x.cnt * 8388608, own4, _, _, by go_num, by omega, hid hG4, hid (hEr.out.trans hE4), hid (hBr.out.ev hE4), HF3, HA3, hid (by have := hnr.out; have := HC.out; refine ⟨?_, ?_, ?_⟩ <;> omega)⟩
          case measure => simp [intOf]; omega
        · have hd : t.ks.drop i = [] := List.drop_eq_nil_of_le (by omega)
          have HFF : Hid (F' = FF) := by show _ = _; funext y; rw [hFr.out y, hd, Tt.fvL]; simp
          have HAA : Hid (A' = AA) := by show _ = _; funext y; rw [hAr.out y, hd, Tt.avL]; simp
          have hlt2 : ¬ (i : Int) < t.ks.length := by omega
          have BQ := hid (backG L M wr.drew own' e F' A' n' t (hGr.out.stays (Below.refl _ _).drew) (by have := HB.out; have := hnr.out; omega))
          have k6 := hBr.out.arr.cell
          clear hFr hAr hd
          go_wp2_with fail
          go_region_with (go_at_call 56; refine (BQ.out).mono ?_; rintro r w5 ⟨rfl, own5, hG5, hE5⟩)
          go_wp2_with fail
          go_end0
          exact ⟨rfl, own5, by rw [HFF.out, HAA.out] at hG5; exact hG5.up (by have := HB.out; have := hnr.out; omega), hEr.out.drew.trans hE5⟩
    | false =>
      rw [hbn] at BQ0 HA
      simp only [Bool.false_and, Bool.false_or] at HA
      clear hbn
      have GT2 := GT0
      have EV2 : Hid (Ev own w own w) := Ev.refl _ _
      have HF2 := HF
      have HA2 := HA
      have HN2 : Hid (n ≤ n + 2) := Nat.le_add_right _ _
      have IQ := hid (intoG L M w own e F A n (k + 1) b o t GT2.out (HP.out _ _ EV2.out) hLM (by have := HN2.out; have := HB.out.2.2; omega) (by have := HB.out.2.1; omega))
      have hkl : t.ks.length ≤ 9223372036854775807 := HKL.out
      go_enter Tryz.func70, Tryz.ntmps70
      go_wp2_with (first
        | (go_at_call 90; refine (BQ0.out w own (Ev.refl _ _)).mono ?_; rintro r w9 ⟨rfl, hw⟩; rw [hw]; clear hw w9)
        | (go_at_call 54; refine (IQ.out).mono ?_; rintro r w3 ⟨rfl, own3, hG3, hE3⟩; have G3 := hid (hG3.stays (bl_alloc (Below.refl _ _) (.cells #[.int .i64 e.length, .int .i64 0] 129))); have E3 := hid ((EV2.out.trans hE3).alloc (.cells #[.int .i64 e.length, .int .i64 0] 129)); have B3 := hid (Bx.new (n0 := w.heap.size) (w := w3) 129 [.int .i64 e.length, .int .i64 0] (fun b hb => (hG3.own b hb).2) (EV2.out.trans hE3).size); have z3 := HX3.out _ _ E3.out; clear hG3 hE3))
      generalize w3.alloc (.cells #[.int .i64 e.length, .int .i64 0] 129) = W3 at G3 E3 B3 z3 ⊢
      generalize w3.heap.size = pB at B3 ⊢
      clear z3 hkl
      go_loopw [68] (fun v wr => ∃ (i n' : Nat) (own' : Nat → Prop) (F' A' : Int → Bool), v = .int .i64 i ∧ i ≤ t.ks.length ∧ Hid (Gt L M wr own' (t.env e) F' A' n') ∧ Hid (Ev own w own' wr) ∧ Hid (Bx w.heap.size wr own' pB 129 [.int .i64 e.length, .int .i64 0]) ∧ Hid (∀ x, FF x = (F' x || Tt.fvL (t.ks.drop i) (t.env e) x)) ∧ Hid (∀ x, AA x = (A' x || Tt.avL (t.ks.drop i) x)) ∧ Hid (n' + Tt.cntL (t.ks.drop i) * 8388608 ≤ n + 3 + Tt.cntL t.ks * 8388608 ∧ Tt.cntL (t.ks.drop i) ≤ Tt.cntL t.ks ∧ Tt.deepestL (t.ks.drop i) ≤ Tt.deepestL t.ks)) (fun v _ => t.ks.length - (intOf v).toNat)
      case atStart => exact ⟨0, n + 1, own3, F, A, rfl, Nat.zero_le _, G3, E3, B3, HF2, HA2, hid (by have := HN2.out; refine ⟨?_, ?_, ?_⟩ <;> (try rw [List.drop_zero]) <;> omega)⟩
      case round =>
        obtain ⟨i, n', own', F', A', rfl, hil, hGr, hEr, hBr, hFr, hAr, hnr⟩ := hrel
        clear G3 E3 B3 HF2 HA2 IQ GT2 EV2
        have hkl : t.ks.length ≤ 9223372036854775807 := HKL.out
        by_cases hlt : i < t.ks.length
        · obtain ⟨x, hxi⟩ : ∃ x, t.ks[i]? = some x := ⟨_, List.getElem?_eq_getElem hlt⟩
          obtain ⟨kb, ko, rfl, hPx⟩ := (HLs.out _ _ hEr.out).elem hxi
          have z3 := HX3.out _ _ hEr.out
          have HC : Hid (Tt.cntL (t.ks.drop i) = x.cnt + Tt.cntL (t.ks.drop (i + 1)) ∧ Tt.deepestL (t.ks.drop i) = max x.deepest (Tt.deepestL (t.ks.drop (i + 1)))) := ⟨Tt.cntL_drop hxi, Tt.deepestL_drop hxi⟩
          have HF3 : Hid (∀ y, FF y = ((F' y || x.fv (t.env e) y) || Tt.fvL (t.ks.drop (i + 1)) (t.env e) y)) := fun y => by rw [hFr.out y, Tt.fvL_drop hxi, Bool.or_assoc]
          have HA3 : Hid (∀ y, AA y = ((A' y || x.av y) || Tt.avL (t.ks.drop (i + 1)) y)) := fun y => by rw [hAr.out y, Tt.avL_drop hxi, Bool.or_assoc]
          have HQ := hid (HIH.out wr own' (t.env e) F' A' n' kb _ x hGr.out hPx (by have := (env_len t e).2.1; have := HB.out; have := HC.out; have := hnr.out; omega) (by have := HB.out; have := HC.out; have := hnr.out; omega))
          have hlt2 : (i : Int) < t.ks.length := by omega
          clear hPx hxi hFr hAr
          go_wp2_with (go_at_call 70; refine (HQ.out).mono ?_; rintro r w4 ⟨rfl, own4, hG4, hE4⟩)
          go_roundw
          case rel => exact ⟨i + 1, n' + x.cnt * 8388608, own4, _, _, by go_num, by omega, hid hG4, hid (hEr.out.trans hE4), hid (hBr.out.ev hE4), HF3, HA3, hid (by have := hnr.out; have := HC.out; refine ⟨?_, ?_, ?_⟩ <;> omega)⟩
          case measure => simp [intOf]; omega
        · have hd : t.ks.drop i = [] := List.drop_eq_nil_of_le (by omega)
          have HFF : Hid (F' = FF) := by show _ = _; funext y; rw [hFr.out y, hd, Tt.fvL]; simp
          have HAA : Hid (A' = AA) := by show _ = _; funext y; rw [hAr.out y, hd, Tt.avL]; simp
          have hlt2 : ¬ (i : Int) < t.ks.length := by omega
          have BQ := hid (backG L M wr.drew own' e F' A' n' t (hGr.out.stays (Below.refl _ _).drew) (by have := HB.out; have := hnr.out; omega))
          have k6 := hBr.out.arr.cell
          clear hFr hAr hd
          go_wp2_with fail
          go_region_with (go_at_call 56; refine (BQ.out).mono ?_; rintro r w5 ⟨rfl, own5, hG5, hE5⟩)
          go_wp2_with fail
          go_end0
          exact ⟨rfl, own5, by rw [HFF.out, HAA.out] at hG5; exact hG5.up (by have := HB.out; have := hnr.out; omega), hEr.out.drew.trans hE5⟩
theorem ofType_any (L M : Nat) (hLM : L ≤ M) : ∀ k, GathOf L M k
  | 0 => fun w own e F A n b o t _ h => by obtain ⟨m, e⟩ := h.pos; cases e
  | k + 1 => gath_step L M k hLM (ofType_any L M hLM k)
end Go.Proofs.YtigliglmejkakaaGreat.Tgt
