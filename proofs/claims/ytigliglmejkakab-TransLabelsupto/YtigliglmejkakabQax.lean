/- The makers of any structure's labels. -/
import Derived.Test.YtigliglmejkakabQav
import Derived.Test.YtigliglmejkakabQaw
namespace Go.Proofs.Ytigliglmejkakab
open Go.RowKit
set_option linter.unusedVariables false
set_option linter.unusedSimpArgs false

theorem nOut_any (s : ByteArray) (hs : s.size ≤ 9223372036854775800) (w : World) : Calls Try.prog 41 #[.string s] w fun e w' => e = .returned (.string (⟨#[111, 117, 116, 32]⟩ ++ s)) ∧ w' = w := by
  have hb : ¬ ((4 + s.size : Nat) : Int) > 9223372036854775807 := by omega
  go_enter Try.func41, Try.ntmps41
  go_wp2
  go_ret
  exact ⟨rfl, rfl⟩
theorem nCon_any (s : ByteArray) (hs : s.size ≤ 9223372036854775800) (w : World) : Calls Try.prog 44 #[.string s] w fun e w' => e = .returned (.string (s ++ ⟨#[40, 41]⟩)) ∧ w' = w := by
  have hb : ¬ ((s.size + 2 : Nat) : Int) > 9223372036854775807 := by omega
  go_enter Try.func44, Try.ntmps44
  go_wp2
  go_ret
  exact ⟨rfl, rfl⟩
/-- What a datatype's out comes to. -/
def outA (x : Tm) : An := ansB (decide (x.t.k = 6) && (x.t.okT && okSum x.cs)) (.mk 4 0 [] [Tp.made 0 x.t, sumT x.cs])

set_option maxHeartbeats 2000000 in
set_option maxRecDepth 100000 in
theorem out_all (w : World) (n b o : Nat) (x : Tm) (a1 a2 : Option Addr) (c1 c2 : Nat) (hcl : w.cell? ⟨b, o + 1, none⟩ = some (.int .i64 x.t.k) ∧ w.cell? ⟨b, o + 2, none⟩ = some (.int .i64 x.t.n) ∧ w.cell? ⟨b, o + 3, none⟩ = some (.slice a1 x.t.ks.length c1) ∧ w.cell? ⟨b, o + 4, none⟩ = some (.slice a2 x.cs.length c2)) (hT : TAt w Any n [.int .i64 x.t.k, .int .i64 x.t.n, .slice a1 x.t.ks.length c1] x.t) (hl : CtL w Any n (.slice a2 x.cs.length c2) x.cs) (hc : x.t.cnt ≤ 1048576) (hcc : Ct.wt x.cs ≤ 1048576) :
    Calls Try.prog 43 #[.pointer (some ⟨b, o, none⟩)] w fun e w' => AnsOf w (outA x) e w' := by
  have hwt := Ct.wt_le x.cs
  have HT := fun wz (hz : Below w.heap.size w wz) => TType_any wz n _ x.t (hT.below hz) hc
  have HSu := fun wz (hz : Below w.heap.size w wz) => Sum_any wz n _ x.cs (hl.below hz) (by omega) (by omega)
  have HB1 : Hid (Below w.heap.size w (w.alloc (.cells #[.int .i64 0, .int .i64 0, .slice none 0 0, .slice none 0 0] 32))) := bl_alloc (Below.refl _ _) _
  have Y1 : Hid (Arr (w.alloc (.cells #[.int .i64 0, .int .i64 0, .slice none 0 0, .slice none 0 0] 32)) w.heap.size 32 [.int .i64 0, .int .i64 0, .slice none 0 0, .slice none 0 0]) := ⟨heap_alloc_at _ _⟩
  have hbw : b < w.heap.size := World.block_lt_of_cell? _ _ hcl.1
  have HU : Hid (∀ wz, Below w.heap.size w wz → wz.cell? ⟨b, o + 1, none⟩ = some (.int .i64 x.t.k) ∧ wz.cell? ⟨b, o + 2, none⟩ = some (.int .i64 x.t.n) ∧ wz.cell? ⟨b, o + 3, none⟩ = some (.slice a1 x.t.ks.length c1) ∧ wz.cell? ⟨b, o + 4, none⟩ = some (.slice a2 x.cs.length c2)) := fun wz hz => ⟨(hz.cell (p := ⟨b, o + 1, none⟩) hbw).trans hcl.1, (hz.cell (p := ⟨b, o + 2, none⟩) hbw).trans hcl.2.1, (hz.cell (p := ⟨b, o + 3, none⟩) hbw).trans hcl.2.2.1, (hz.cell (p := ⟨b, o + 4, none⟩) hbw).trans hcl.2.2.2⟩
  obtain ⟨m1, m2, m3, m4⟩ := HU.out _ HB1.out
  have HSS : Hid (∀ (W : World) i u, Below w.heap.size w W → Below w.heap.size w (W.setCell ⟨w.heap.size, i, none⟩ u)) := fun W i u h => bl_set _ _ h (Nat.le_refl _)
  have HZ1 : Hid ((w.alloc (.cells #[.int .i64 0, .int .i64 0, .slice none 0 0, .slice none 0 0] 32)).heap.size = w.heap.size + 1) := size_alloc _ _
  have hO : outA x = ansB (decide (x.t.k = 6) && (x.t.okT && okSum x.cs)) (.mk 4 0 [] [Tp.made 0 x.t, sumT x.cs]) := rfl
  clear hT hl hcl hc hcc
  by_cases h6 : x.t.k = 6
  case neg =>
    have HK : Hid (outA x = (zeroA, 1)) := by show _ = _; rw [hO, decide_eq_false h6]; rfl
    have e6 : (x.t.k != 6) = true := by rw [bne_iff_ne]; exact h6
    have y1 := Y1.out.cell
    have z1 := Y1.out.frozen
    clear h6 hO HT HSu
    go_enter Try.func43, Try.ntmps43
    go_wp2
    refine bodyPost_ret (v := .tuple #[.agg #[.int .i64 0, .int .i64 0, .slice none 0 0, .slice none 0 0], .int .i64 1]) (by rw [results_cell2t (fn := Try.f43) (p := 2) (a := 3) (ty := 32) (by kernel_rfl)]; simp [go_sem, y1, z1]) rfl ?_
    rw [HK.out]
    exact AnsOf.err 1 (by first | exact HSS.out _ _ _ (HSS.out _ _ _ (HSS.out _ _ _ (HSS.out _ _ _ HB1.out))) | exact HB1.out)
  rw [decide_eq_true h6, Bool.true_and] at hO
  have e6 : (x.t.k != 6) = false := by rw [bne_eq_false_iff_eq]; exact h6
  clear h6
  cases hok : x.t.okT with
  | false =>
    have HQ : Hid (Calls Try.prog 11 #[.agg #[.int .i64 x.t.k, .int .i64 x.t.n, .slice a1 x.t.ks.length c1]] (w.alloc (.cells #[.int .i64 0, .int .i64 0, .slice none 0 0, .slice none 0 0] 32)) fun e w' => e = .returned (.tuple #[.agg #[.int .i64 0, .int .i64 0, .slice none 0 0, .slice none 0 0], .int .i64 1]) ∧ Below (w.alloc (.cells #[.int .i64 0, .int .i64 0, .slice none 0 0, .slice none 0 0] 32)).heap.size (w.alloc (.cells #[.int .i64 0, .int .i64 0, .slice none 0 0, .slice none 0 0] 32)) w') := (HT _ HB1.out).mono fun e w' ⟨h1, h2⟩ => ⟨h1.resolve_left (fun h => by have := h.1; rw [hok] at this; cases this) |>.2, h2⟩
    have HK : Hid (outA x = (zeroA, 1)) := by show _ = _; rw [hO, hok]; rfl
    clear HT HSu hok hO
    go_enter Try.func43, Try.ntmps43
    go_wp2_with (go_at_call 11; refine HQ.out.mono ?_; rintro e w2 ⟨rfl, b2⟩; have HB2 := hid (bl_tr HB1.out b2); have r2 := fun o => ((Y1.out.stays b2).stays (bl_alloc (Below.refl _ _) o)).cell; have s2 := fun o => ((Y1.out.stays b2).stays (bl_alloc (Below.refl _ _) o)).frozen; clear b2)
    refine bodyPost_ret (v := .tuple #[.agg #[.int .i64 0, .int .i64 0, .slice none 0 0, .slice none 0 0], .int .i64 1]) (by rw [results_cell2t (fn := Try.f43) (p := 2) (a := 3) (ty := 32) (by kernel_rfl)]; simp [go_sem, r2, s2]) rfl ?_
    rw [HK.out]
    exact AnsOf.err 1 (HSS.out _ _ _ (HSS.out _ _ _ (HSS.out _ _ _ (HSS.out _ _ _ (bl_alloc HB2.out _)))))
  | true =>
  rw [hok, Bool.true_and] at hO
  obtain ⟨y1, hy1⟩ : ∃ y1, Tp.made 0 x.t = y1 := ⟨_, rfl⟩
  obtain ⟨y2, hy2⟩ : ∃ y2, sumT x.cs = y2 := ⟨_, rfl⟩
  rw [hy1, hy2] at hO
  have HQ1 : Hid (Calls Try.prog 11 #[.agg #[.int .i64 x.t.k, .int .i64 x.t.n, .slice a1 x.t.ks.length c1]] (w.alloc (.cells #[.int .i64 0, .int .i64 0, .slice none 0 0, .slice none 0 0] 32)) fun e w' => (∃ q1' d1' q1 d1 N1, e = .returned (.tuple #[.agg #[.int .i64 y1.k, .int .i64 y1.n, .slice q1' y1.ls.length d1', .slice q1 y1.ks.length d1], .int .i64 0]) ∧ Tgt.TAt w' (fun b => (w.alloc (.cells #[.int .i64 0, .int .i64 0, .slice none 0 0, .slice none 0 0] 32)).heap.size ≤ b) N1 [.int .i64 y1.k, .int .i64 y1.n, .slice q1' y1.ls.length d1', .slice q1 y1.ks.length d1] y1) ∧ Below (w.alloc (.cells #[.int .i64 0, .int .i64 0, .slice none 0 0, .slice none 0 0] 32)).heap.size (w.alloc (.cells #[.int .i64 0, .int .i64 0, .slice none 0 0, .slice none 0 0] 32)) w') := (HT _ HB1.out).mono fun e w' ⟨h1, h2⟩ => ⟨by rw [hok, hy1] at h1; exact h1.two.yes, h2⟩
  cases hos : okSum x.cs with
  | false =>
    have HQ2 : Hid (∀ wz, Below w.heap.size w wz → Calls Try.prog 18 #[.slice a2 x.cs.length c2] wz fun e w' => e = .returned (.tuple #[.agg #[.int .i64 0, .int .i64 0, .slice none 0 0, .slice none 0 0], .int .i64 1]) ∧ Below wz.heap.size wz w') := fun wz hz => (HSu wz hz).mono fun e w' ⟨h1, h2⟩ => ⟨h1.resolve_left (fun h => by have := h.1; rw [hos] at this; cases this) |>.2, h2⟩
    have HK : Hid (outA x = (zeroA, 1)) := by show _ = _; rw [hO, hos]; rfl
    clear HT HSu hok hos hO hy1 hy2
    go_enter Try.func43, Try.ntmps43
    go_wp2_with (first | (go_at_call 11; refine HQ1.out.mono ?_; rintro e w2 ⟨⟨q1', d1', q1, d1, N1, rfl, -⟩, b2⟩; have hb2 := bl_alloc b2 (.cells #[.int .i64 y1.k, .int .i64 y1.n, .slice q1' y1.ls.length d1', .slice q1 y1.ks.length d1] 32); have HB2 := hid (bl_tr HB1.out hb2); have Y2 := hid (Y1.out.stays hb2); obtain ⟨k1, k2, k3, k4⟩ := HU.out _ HB2.out; clear b2 hb2) | (go_at_call 18; refine (HQ2.out _ HB2.out).mono ?_; rintro e w3 ⟨rfl, b3⟩; have HB3 := hid (bl_tr HB2.out b3); have r3 := fun o => ((Y2.out.stays b3).stays (bl_alloc (Below.refl _ _) o)).cell; have s3 := fun o => ((Y2.out.stays b3).stays (bl_alloc (Below.refl _ _) o)).frozen; clear b3))
    refine bodyPost_ret (v := .tuple #[.agg #[.int .i64 0, .int .i64 0, .slice none 0 0, .slice none 0 0], .int .i64 1]) (by rw [results_cell2t (fn := Try.f43) (p := 2) (a := 3) (ty := 32) (by kernel_rfl)]; simp [go_sem, r3, s3]) rfl ?_
    rw [HK.out]
    exact AnsOf.err 1 (HSS.out _ _ _ (HSS.out _ _ _ (HSS.out _ _ _ (HSS.out _ _ _ (bl_alloc HB3.out _)))))
  | true =>
    have HQ2 : Hid (∀ wz, Below w.heap.size w wz → Calls Try.prog 18 #[.slice a2 x.cs.length c2] wz fun e w' => (∃ q2' d2' q2 d2 N2, e = .returned (.tuple #[.agg #[.int .i64 y2.k, .int .i64 y2.n, .slice q2' y2.ls.length d2', .slice q2 y2.ks.length d2], .int .i64 0]) ∧ Tgt.TAt w' (fun b => wz.heap.size ≤ b) N2 [.int .i64 y2.k, .int .i64 y2.n, .slice q2' y2.ls.length d2', .slice q2 y2.ks.length d2] y2) ∧ Below wz.heap.size wz w') := fun wz hz => (HSu wz hz).mono fun e w' ⟨h1, h2⟩ => ⟨by rw [hos, hy2] at h1; exact h1.yes, h2⟩
    have HK : Hid (outA x = (.mk 4 0 [] [y1, y2], 0)) := by show _ = _; rw [hO, hos]; rfl
    clear HT HSu hok hos hO hy1 hy2
    go_enter Try.func43, Try.ntmps43
    go_wp2_with (first | (go_at_call 11; refine HQ1.out.mono ?_; rintro e w2 ⟨⟨q1', d1', q1, d1, N1, rfl, hT2⟩, b2⟩; have hb2 := bl_alloc b2 (.cells #[.int .i64 y1.k, .int .i64 y1.n, .slice q1' y1.ls.length d1', .slice q1 y1.ks.length d1] 32); have HB2 := hid (bl_tr HB1.out hb2); have Y2 := hid (Y1.out.stays hb2); have A2 : Hid (Arr (w2.alloc (.cells #[.int .i64 y1.k, .int .i64 y1.n, .slice q1' y1.ls.length d1', .slice q1 y1.ks.length d1] 32)) w2.heap.size 32 [.int .i64 y1.k, .int .i64 y1.n, .slice q1' y1.ls.length d1', .slice q1 y1.ks.length d1]) := ⟨heap_alloc_at _ _⟩; have T2 : Hid (Tgt.TAt (w2.alloc (.cells #[.int .i64 y1.k, .int .i64 y1.n, .slice q1' y1.ls.length d1', .slice q1 y1.ks.length d1] 32)) (fun b => w.heap.size + 1 ≤ b) N1 [.int .i64 y1.k, .int .i64 y1.n, .slice q1' y1.ls.length d1', .slice q1 y1.ks.length d1] y1) := (hT2.below (bl_alloc (Below.refl _ _) _)).move (Tgt.Keeps.refl _ _) (fun b hb => by have hb := hb; rw [HZ1.out] at hb; exact hb); obtain ⟨k1, k2, k3, k4⟩ := HU.out _ HB2.out; clear b2 hb2 hT2) | (go_at_call 18; refine (HQ2.out _ HB2.out).mono ?_; rintro e w3 ⟨⟨q2', d2', q2, d2, N2, rfl, hT3⟩, b3⟩; have hb3 := bl_alloc b3 (.cells #[.int .i64 y2.k, .int .i64 y2.n, .slice q2' y2.ls.length d2', .slice q2 y2.ks.length d2] 32); have HB3 := hid (bl_tr HB2.out hb3); have Y3 := hid (Y2.out.stays hb3); have A3 := hid (A2.out.stays hb3); have T3 := hid (T2.out.below hb3); have C3 : Hid (Arr (w3.alloc (.cells #[.int .i64 y2.k, .int .i64 y2.n, .slice q2' y2.ls.length d2', .slice q2 y2.ks.length d2] 32)) w3.heap.size 32 [.int .i64 y2.k, .int .i64 y2.n, .slice q2' y2.ls.length d2', .slice q2 y2.ks.length d2]) := ⟨heap_alloc_at _ _⟩; have hz2 := A2.out.lt; have hz3 := Y2.out.lt; have U3 : Hid (Tgt.TAt (w3.alloc (.cells #[.int .i64 y2.k, .int .i64 y2.n, .slice q2' y2.ls.length d2', .slice q2 y2.ks.length d2] 32)) (fun b => w.heap.size + 1 ≤ b) N2 [.int .i64 y2.k, .int .i64 y2.n, .slice q2' y2.ls.length d2', .slice q2 y2.ks.length d2] y2) := (hT3.below (bl_alloc (Below.refl _ _) _)).move (Tgt.Keeps.refl _ _) (fun b hb => by have hb : (w2.alloc (.cells #[.int .i64 y1.k, .int .i64 y1.n, .slice q1' y1.ls.length d1', .slice q1 y1.ks.length d1] 32)).heap.size ≤ b := hb; show _ ≤ b; omega); have x3 := A3.out.cell; have y3 := C3.out.cell; have hz4 := Y3.out.lt; clear b3 hb3 hT3) | (go_at_call 38; refine (both_any _ (fun b => w.heap.size + 1 ≤ b) (max N1 N2) 4 y1 y2 q1' q1 q2' q2 d1' d1 d2' d2 ⟨by omega, by omega⟩ (T3.out.le (Nat.le_max_left _ _)) (U3.out.le (Nat.le_max_right _ _)) (fun b hb => by show _ ≤ b; omega)).mono ?_; rintro e w4 ⟨q4, d4, rfl, hT4, b4⟩; have HT4 := hid hT4; have HB4 := hid (bl_tr HB3.out b4); have r4 := (Y3.out.stays b4).cell; have s4 := (Y3.out.stays b4).frozen; clear b4 hT4))
    refine bodyPost_ret (v := .tuple #[.agg #[.int .i64 4, .int .i64 0, .slice none 0 0, .slice q4 2 d4], .int .i64 0]) (by rw [results_cell2t (fn := Try.f43) (p := 2) (a := 3) (ty := 32) (by kernel_rfl)]; simp [go_sem, r4, s4]) rfl ?_
    rw [HK.out]
    have hK : ∀ (W : World) i u, Tgt.Keeps (fun b => w.heap.size + 1 ≤ b) W (W.setCell ⟨w.heap.size, i, none⟩ u) := fun W i u b o v hb hv => by have hb : w.heap.size + 1 ≤ b := hb; rw [World.cell?_of_block (w := W) (Below.heap_setCell _ _ _ _ (by show b ≠ w.heap.size; omega))]; exact hv
    exact ⟨⟨none, 0, q4, d4, _, rfl, HT4.out.move (((hK _ _ _).trans (hK _ _ _)).trans ((hK _ _ _).trans (hK _ _ _))) (fun b hb => by have hb : w.heap.size + 1 ≤ b := hb; show w.heap.size ≤ b; omega)⟩, HSS.out _ _ _ (HSS.out _ _ _ (HSS.out _ _ _ (HSS.out _ _ _ HB4.out)))⟩
end Go.Proofs.Ytigliglmejkakab
