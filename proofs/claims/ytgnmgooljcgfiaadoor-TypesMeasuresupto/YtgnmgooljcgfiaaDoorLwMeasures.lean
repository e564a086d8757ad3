/- TypesMeasures: the walk. -/
import Derived.Test.YtgnmgooljcgfiaaDoorTpH
import Derived.Test.YtgnmgooljcgfiaaDoorTpIn
import Derived.Test.YtgnmgooljcgfiaaDoorTpFe
import Derived.Test.YtgnmgooljcgfiaaDoorTpFr
import Derived.Test.YtgnmgooljcgfiaaDoorTpDt
namespace Go.Proofs.YtgnmgooljcgfiaaDoor
open Go.RowKit
set_option linter.unusedVariables false
set_option linter.unusedSimpArgs false

/-- How long a text may be, of any type. -/
theorem Tp.text_lenA (n : Nat) : ∀ t : Tp, t.cnt ≤ n → (∀ m vs w, TAt w Any m vs t → t.text.length ≤ 40 * t.cnt) := by
  induction n with
  | zero => intro t h; cases t; rw [Tp.cnt] at h; omega
  | succ n ih =>
    intro t hc m vs w hT
    cases m with
    | zero => exact hT.elim
    | succ m =>
    obtain ⟨v, rfl, hk, hn, hL⟩ := hT.open_
    have hpos : 1 ≤ t.cnt := by cases t; rw [Tp.cnt]; omega
    have hlf := Tp.leaf_len (k := t.k) (n := t.n) hn
    by_cases h2 : t.ks.length = 2
    rotate_left
    · rw [Tp.text_other h2]
      split
      · simp; omega
      · omega
    obtain ⟨k, nn, ks⟩ := t
    obtain ⟨a, b, rfl⟩ : ∃ a b, ks = [a, b] := by
      match ks, h2 with
      | [a, b], _ => exact ⟨a, b, rfl⟩
    have hcc : Tp.cnt (.mk k nn [a, b]) = a.cnt + b.cnt + 1 := by rw [Tp.cnt, Tp.cntL, Tp.cntL, Tp.cntL]; omega
    have el : ∀ (i : Nat) x, [a, b][i]? = some x → ∃ vs, TAt w Any m vs x := by
      intro i x hx
      rcases hL with ⟨b', o, c, hv, -, -, -, hc⟩ | ⟨h0, -⟩
      · obtain ⟨vs, -, h⟩ := hc i x hx; exact ⟨vs, h⟩
      · cases h0
    obtain ⟨va, ta⟩ := el 0 a rfl
    obtain ⟨vb, tb⟩ := el 1 b rfl
    have la := ih a (by omega) _ _ _ ta
    have lb := ih b (by omega) _ _ _ tb
    have wl : ∀ (f g : Int) (s : List UInt8), (Tp.wrap f g s).length ≤ s.length + 2 := by intro f g s; unfold Tp.wrap; split <;> simp
    simp only [Tp.k, Tp.n] at hlf
    rw [Tp.text_two]
    split
    · have h1 := wl 2 a.level a.text
      have h2 := wl 1 b.level b.text
      simp only [List.length_append, List.length_cons, List.length_nil]
      omega
    · split
      · have h1 := wl 2 a.level a.text
        have h2 := wl 3 b.level b.text
        simp only [List.length_append, List.length_cons, List.length_nil]
        omega
      · omega

set_option maxHeartbeats 8000000 in
set_option maxRecDepth 100000 in
theorem measures_walk (w : World) (hW : Tab w) (na : Nat) (va : List Value) (a : Tp) (ha : TAt w Any na va a) (hla : a.cnt ≤ 1048576) :
    Calls Tryd.prog 3 #[.agg va.toArray] w fun e w' => e = .returned (.bool true) ∧ Below w.heap.size w w' := by
  obtain ⟨a2, ca, rfl⟩ := ha.form
  have HA : Hid (TAt w Any na _ a) := ha
  have HW : Hid (Tab w) := hW
  have htl : a.text.length + 100 ≤ 140737488355328 := by have := Tp.text_lenA _ a (Nat.le_refl _) _ _ _ ha; omega
  clear ha hW
  go_enter Tryd.func3, Tryd.ntmps3
  go_wp2
  have X : Hid (Arr (w.alloc (.cells #[.int .i64 a.k, .int .i64 a.n, .slice a2 a.ks.length ca] 24)) w.heap.size 24 [.int .i64 a.k, .int .i64 a.n, .slice a2 a.ks.length ca] ∧ Below w.heap.size w (w.alloc (.cells #[.int .i64 a.k, .int .i64 a.n, .slice a2 a.ks.length ca] 24))) := ⟨⟨heap_alloc_at _ _⟩, bl_alloc (Below.refl _ _) _⟩
  generalize (w.alloc (.cells #[.int .i64 a.k, .int .i64 a.n, .slice a2 a.ks.length ca] 24)) = W1 at X ⊢
  have qa : Hid (∀ wz, Below W1.heap.size W1 wz → TAt wz Any na [.int .i64 a.k, .int .i64 a.n, .slice a2 a.ks.length ca] a) := fun wz hz => (HA.out.below X.out.2).below hz
  have s1 : Hid (∀ wz, Below W1.heap.size W1 wz → Calls Tryd.prog 4 #[.agg #[.int .i64 a.k, .int .i64 a.n, .slice a2 a.ks.length ca]] wz fun e w' => e = .returned (.bool a.right) ∧ Below wz.heap.size wz w') := fun wz hz => Right_any wz _ _ _ (qa.out wz hz)
  have s2 : Hid (∀ wz, Below W1.heap.size W1 wz → Calls Tryd.prog 5 #[.agg #[.int .i64 a.k, .int .i64 a.n, .slice a2 a.ks.length ca]] wz fun e w' => e = .returned (.bool a.right) ∧ Below wz.heap.size wz w') := fun wz hz => refRight_any _ wz _ _ (qa.out wz hz)
  have s3 : Hid (∀ wz, Below W1.heap.size W1 wz → Calls Tryd.prog 6 #[.agg #[.int .i64 a.k, .int .i64 a.n, .slice a2 a.ks.length ca]] wz fun e w' => e = .returned (.int .i64 (Tp.upto a.cnt).1) ∧ Below wz.heap.size wz w') := fun wz hz => Size_any wz _ _ _ (qa.out wz hz)
  have s4 : Hid (∀ wz, Below W1.heap.size W1 wz → Calls Tryd.prog 7 #[.agg #[.int .i64 a.k, .int .i64 a.n, .slice a2 a.ks.length ca]] wz fun e w' => e = .returned (.int .i64 (Tp.upto a.cnt).1) ∧ Below wz.heap.size wz w') := fun wz hz => refSize_any wz _ _ _ (qa.out wz hz)
  have s5 : Hid (∀ wz, Below W1.heap.size W1 wz → Calls Tryd.prog 8 #[.agg #[.int .i64 a.k, .int .i64 a.n, .slice a2 a.ks.length ca]] wz fun e w' => e = .returned (.bool (Tp.upto a.cnt).2) ∧ Below wz.heap.size wz w') := fun wz hz => Fits_any wz _ _ _ (qa.out wz hz)
  have s6 : Hid (∀ wz, Below W1.heap.size W1 wz → Calls Tryd.prog 9 #[.agg #[.int .i64 a.k, .int .i64 a.n, .slice a2 a.ks.length ca]] wz fun e w' => e = .returned (.bool (Tp.upto a.cnt).2) ∧ Below wz.heap.size wz w') := fun wz hz => refFits_any wz _ _ _ (qa.out wz hz)
  have s7 : Hid (∀ wz, Below W1.heap.size W1 wz → Calls Tryd.prog 11 #[.agg #[.int .i64 a.k, .int .i64 a.n, .slice a2 a.ks.length ca]] wz fun e w' => ∃ v, e = .returned v ∧ Ls w' Any v (Tp.found 6 a []) ∧ Below wz.heap.size wz w') := fun wz hz => Stamps_any wz _ _ _ (qa.out wz hz) hla
  have s8 : Hid (∀ wz, Below W1.heap.size W1 wz → Calls Tryd.prog 12 #[.agg #[.int .i64 a.k, .int .i64 a.n, .slice a2 a.ks.length ca]] wz fun e w' => ∃ v, e = .returned v ∧ Ls w' Any v (Tp.found 6 a []) ∧ Below wz.heap.size wz w') := fun wz hz => (refStamps_any wz _ _ _ (qa.out wz hz) hla).mono (fun e w' ⟨p, c, h1, h2, h3⟩ => ⟨_, h1, h2, h3⟩)
  have s10 : Hid (∀ wz, Below W1.heap.size W1 wz → Calls Tryd.prog 13 #[.agg #[.int .i64 a.k, .int .i64 a.n, .slice a2 a.ks.length ca]] wz fun e w' => ∃ v, e = .returned v ∧ Ls w' Any v (Tp.found 7 a []) ∧ Below wz.heap.size wz w') := fun wz hz => Metas_any wz _ _ _ (qa.out wz hz) hla
  have s11 : Hid (∀ wz, Below W1.heap.size W1 wz → Calls Tryd.prog 14 #[.agg #[.int .i64 a.k, .int .i64 a.n, .slice a2 a.ks.length ca]] wz fun e w' => ∃ v, e = .returned v ∧ Ls w' Any v (Tp.found 7 a []) ∧ Below wz.heap.size wz w') := fun wz hz => (refMetas_any wz _ _ _ (qa.out wz hz) hla).mono (fun e w' ⟨p, c, h1, h2, h3⟩ => ⟨_, h1, h2, h3⟩)
  have s13 : Hid (∀ wz, Below W1.heap.size W1 wz → Calls Tryd.prog 15 #[.agg #[.int .i64 a.k, .int .i64 a.n, .slice a2 a.ks.length ca]] wz fun e w' => ∃ v, e = .returned v ∧ Ls w' Any v (Tp.found 8 a []) ∧ Below wz.heap.size wz w') := fun wz hz => Gens_any wz _ _ _ (qa.out wz hz) hla
  have s14 : Hid (∀ wz, Below W1.heap.size W1 wz → Calls Tryd.prog 16 #[.agg #[.int .i64 a.k, .int .i64 a.n, .slice a2 a.ks.length ca]] wz fun e w' => ∃ v, e = .returned v ∧ Ls w' Any v (Tp.found 8 a []) ∧ Below wz.heap.size wz w') := fun wz hz => (refGens_any wz _ _ _ (qa.out wz hz) hla).mono (fun e w' ⟨p, c, h1, h2, h3⟩ => ⟨_, h1, h2, h3⟩)
  have s16 : Hid (∀ wz, Below W1.heap.size W1 wz → Calls Tryd.prog 17 #[.agg #[.int .i64 a.k, .int .i64 a.n, .slice a2 a.ks.length ca]] wz fun e w' => e = .returned (.bool (Tp.spares [7, 8] a)) ∧ Below wz.heap.size wz w') := fun wz hz => Closed_any wz _ _ _ (qa.out wz hz)
  have s17 : Hid (∀ wz, Below W1.heap.size W1 wz → Calls Tryd.prog 18 #[.agg #[.int .i64 a.k, .int .i64 a.n, .slice a2 a.ks.length ca]] wz fun e w' => e = .returned (.bool (Tp.spares [7, 8] a)) ∧ Below wz.heap.size wz w') := fun wz hz => refClosed_any wz _ _ _ (qa.out wz hz) hla
  have s18 : Hid (∀ wz, Below W1.heap.size W1 wz → Calls Tryd.prog 19 #[.agg #[.int .i64 a.k, .int .i64 a.n, .slice a2 a.ks.length ca]] wz fun e w' => e = .returned (.string ⟨a.text.toArray⟩) ∧ Below wz.heap.size wz w') := fun wz hz => Text_any wz (HW.out.stays (bl_tr X.out.2 hz)) _ _ _ (qa.out wz hz) htl
  have s19 : Hid (∀ wz, Below W1.heap.size W1 wz → Calls Tryd.prog 20 #[.agg #[.int .i64 a.k, .int .i64 a.n, .slice a2 a.ks.length ca]] wz fun e w' => e = .returned (.string ⟨a.text.toArray⟩) ∧ Below wz.heap.size wz w') := fun wz hz => refText_any _ wz _ _ (qa.out wz hz) htl
  have s20 : Hid (∀ wz, Below W1.heap.size W1 wz → Calls Tryd.prog 21 #[] wz fun e w' => e = .returned (.bool true) ∧ Below wz.heap.size wz w') := fun wz hz => alive_any wz (HW.out.stays (bl_tr X.out.2 hz))
  have B1 : Hid (Below w.heap.size w W1) := X.out.2
  have hs0 : Hid ((fun w' => w'.cell? ⟨w.heap.size, 0, none⟩ = some (.int .i64 a.k) ∧ w'.cell? ⟨w.heap.size, 1, none⟩ = some (.int .i64 a.n) ∧ w'.cell? ⟨w.heap.size, 2, none⟩ = some (.slice a2 a.ks.length ca) ∧ Below W1.heap.size W1 w') W1.drew) := ⟨X.out.1.cell 0, X.out.1.cell 1, X.out.1.cell 2, (Below.refl _ _).drew⟩
  clear HA HW qa X hla htl
  generalize (Tp.upto a.cnt).1 = r1 at s3 s4
  generalize (Tp.upto a.cnt).2 = r2 at s5 s6
  generalize a.right = r3 at s1 s2
  generalize Tp.spares [7, 8] a = r4 at s16 s17
  generalize (⟨a.text.toArray⟩ : ByteArray) = r5 at s18 s19
  go_region_held (fun w' => w'.cell? ⟨w.heap.size, 0, none⟩ = some (.int .i64 a.k) ∧ w'.cell? ⟨w.heap.size, 1, none⟩ = some (.int .i64 a.n) ∧ w'.cell? ⟨w.heap.size, 2, none⟩ = some (.slice a2 a.ks.length ca) ∧ Below W1.heap.size W1 w') (first | exact hs0.out | exact keep3 (by assumption) (by assumption)) (first | (go_at_call 4; have _ := s1; refine (s1.out _ (belo3 (by assumption))).mono ?_; rintro e wa1 ⟨rfl, ba1⟩; clear s1) | (go_at_call 5; have _ := s2; refine (s2.out _ (belo3 (by assumption))).mono ?_; rintro e wa2 ⟨rfl, ba2⟩; clear s2) | (go_at_call 6; have _ := s3; refine (s3.out _ (belo3 (by assumption))).mono ?_; rintro e wa3 ⟨rfl, ba3⟩; clear s3) | (go_at_call 7; have _ := s4; refine (s4.out _ (belo3 (by assumption))).mono ?_; rintro e wa4 ⟨rfl, ba4⟩; clear s4) | (go_at_call 8; have _ := s5; refine (s5.out _ (belo3 (by assumption))).mono ?_; rintro e wa5 ⟨rfl, ba5⟩; clear s5) | (go_at_call 9; have _ := s6; refine (s6.out _ (belo3 (by assumption))).mono ?_; rintro e wa6 ⟨rfl, ba6⟩; clear s6) | (go_at_call 11; have _ := s7; refine (s7.out _ (belo3 (by assumption))).mono ?_; rintro e wa7 ⟨v7, rfl, hL, ba7⟩; have K6 : Hid (Ls wa7 Any v7 _) := hL; clear hL s7) | (go_at_call 12; have _ := s8; refine (s8.out _ (belo3 (by assumption))).mono ?_; rintro e wa8 ⟨v8, rfl, hL, ba8⟩; have J6 : Hid (Ls wa8 Any v8 _) := hL; clear hL s8; have K6 : Hid _ := K6.out.below ba8) | (go_at_call 10; have _ := J6; refine (ints_any _ _ _ _ K6.out J6.out).mono ?_; rintro e wa9 ⟨rfl, ba9⟩; clear K6 J6) | (go_at_call 13; have _ := s10; refine (s10.out _ (belo3 (by assumption))).mono ?_; rintro e wa10 ⟨v10, rfl, hL, ba10⟩; have K7 : Hid (Ls wa10 Any v10 _) := hL; clear hL s10) | (go_at_call 14; have _ := s11; refine (s11.out _ (belo3 (by assumption))).mono ?_; rintro e wa11 ⟨v11, rfl, hL, ba11⟩; have J7 : Hid (Ls wa11 Any v11 _) := hL; clear hL s11; have K7 : Hid _ := K7.out.below ba11) | (go_at_call 10; have _ := J7; refine (ints_any _ _ _ _ K7.out J7.out).mono ?_; rintro e wa12 ⟨rfl, ba12⟩; clear K7 J7) | (go_at_call 15; have _ := s13; refine (s13.out _ (belo3 (by assumption))).mono ?_; rintro e wa13 ⟨v13, rfl, hL, ba13⟩; have K8 : Hid (Ls wa13 Any v13 _) := hL; clear hL s13) | (go_at_call 16; have _ := s14; refine (s14.out _ (belo3 (by assumption))).mono ?_; rintro e wa14 ⟨v14, rfl, hL, ba14⟩; have J8 : Hid (Ls wa14 Any v14 _) := hL; clear hL s14; have K8 : Hid _ := K8.out.below ba14) | (go_at_call 10; have _ := J8; refine (ints_any _ _ _ _ K8.out J8.out).mono ?_; rintro e wa15 ⟨rfl, ba15⟩; clear K8 J8) | (go_at_call 17; have _ := s16; refine (s16.out _ (belo3 (by assumption))).mono ?_; rintro e wa16 ⟨rfl, ba16⟩; clear s16) | (go_at_call 18; have _ := s17; refine (s17.out _ (belo3 (by assumption))).mono ?_; rintro e wa17 ⟨rfl, ba17⟩; clear s17) | (go_at_call 19; have _ := s18; refine (s18.out _ (belo3 (by assumption))).mono ?_; rintro e wa18 ⟨rfl, ba18⟩; clear s18) | (go_at_call 20; have _ := s19; refine (s19.out _ (belo3 (by assumption))).mono ?_; rintro e wa19 ⟨rfl, ba19⟩; clear s19) | (go_at_call 21; have _ := s20; refine (s20.out _ (belo3 (by assumption))).mono ?_; rintro e wa20 ⟨rfl, ba20⟩))
  all_goals go_wp2
  all_goals go_ret
  all_goals exact ⟨rfl, bl_tr B1.out (belo3 (by assumption))⟩
end Go.Proofs.YtgnmgooljcgfiaaDoor
