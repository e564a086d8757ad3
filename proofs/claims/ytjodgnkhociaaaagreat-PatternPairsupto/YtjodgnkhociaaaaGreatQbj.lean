/- The walk of PatternPairs. -/
import Derived.Test.YtjodgnkhociaaaaGreatQbh
import Derived.Test.YtjodgnkhociaaaaGreatQbi
namespace Go.Proofs.YtjodgnkhociaaaaGreat
open Go.RowKit
set_option linter.unusedVariables false
set_option linter.unusedSimpArgs false

theorem outR_cnt (p : Pt) (v : Vl) : (outR p v).length ≤ p.cnt := by
  unfold outR
  split
  · exact fitR_len p v
  · exact Nat.zero_le _
set_option maxRecDepth 100000 in
theorem pairs_law (w : World) (n : Nat) (pvs : List Value) (p : Pt) (hP : PtAt w Any n pvs p) (n2 : Nat) (qvs : List Value) (q : Pt) (hQ : PtAt w Any n2 qvs q) (M : Nat) (vvs : List Value) (v : Vl) (hV : VAt w Any M vvs v) (M2 : Nat) (uvs : List Value) (u : Vl) (hU : VAt w Any M2 uvs u)
    (hc : p.cnt + q.cnt + 1 ≤ 1048576) (hcv : v.cnt + u.cnt + 1 ≤ 1048576) :
    Calls Tryz.prog 4 #[.agg pvs.toArray, .agg qvs.toArray, .agg vvs.toArray, .agg uvs.toArray] w fun e w' => e = .returned (.bool true) ∧ Below w.heap.size w w' := by
  have hP' := hP.le (Nat.le_max_left n n2)
  have hQ' := hQ.le (Nat.le_max_right n n2)
  have hV' := hV.le (Nat.le_max_left M M2)
  have hU' := hU.le (Nat.le_max_right M M2)
  obtain ⟨pa, pc, pa2, pc2, rfl, -, -⟩ := hP.form
  obtain ⟨qa, qc, qa2, qc2, rfl, -, -⟩ := hQ.form
  obtain ⟨va, vc, rfl, -⟩ := hV.form
  obtain ⟨ua, uc, rfl, -⟩ := hU.form
  have c1 : (Pt.mk 7 ⟨#[]⟩ [] 0 [p, q]).cnt ≤ 1048576 := by simp only [Pt.cnt, Pt.cntL]; omega
  have c2 : (Vl.mk 4 0 ⟨#[]⟩ [v, u]).cnt ≤ 1048576 := by simp only [Vl.cnt, Vl.cntL]; omega
  have e3 := fit_two p q v u ⟨#[]⟩ 0 [] ⟨#[]⟩ 0
  have hl1 := outR_cnt p v
  have hl2 := outR_cnt q u
  have HF1 := fun (wz : World) (hz : Below w.heap.size w wz) => PFits_any wz n _ p (hP.below hz) M _ v (hV.below hz) (by omega) (by omega)
  have HF2 := fun (wz : World) (hz : Below w.heap.size w wz) => PFits_any wz n2 _ q (hQ.below hz) M2 _ u (hU.below hz) (by omega) (by omega)
  have HF3 := fun (wz : World) (B1 B2 : Nat) (hz : Below w.heap.size w wz) h1 h2 => PFits_any wz _ _ _ (two_pt (B := B1) (hP'.below hz) (hQ'.below hz) h1) _ _ _ (two_vl (B := B2) (hV'.below hz) (hU'.below hz) h2) c1 c2
  by_cases hb : ((fitR p v).2 && (fitR q u).2) = true
  · obtain ⟨b1, b2⟩ := Bool.and_eq_true_iff.1 hb
    have o1 : outR p v = (fitR p v).1 := by rw [outR, b1, if_pos rfl]
    have o2 : outR q u = (fitR q u).1 := by rw [outR, b2, if_pos rfl]
    rw [b1, if_pos rfl, b2] at e3
    have o3 : outR (.mk 7 ⟨#[]⟩ [] 0 [p, q]) (.mk 4 0 ⟨#[]⟩ [v, u]) = outR p v ++ outR q u := by rw [outR, e3, o1, o2]; rfl
    refine pairs_yes w (outR p v).length (outR q u).length ((outR p v).map Prod.fst) ((outR q u).map Prod.fst) ((outR p v).map Prod.snd) ((outR q u).map Prod.snd) (List.length_map _) (List.length_map _) (List.length_map _) (List.length_map _) (by omega) (by omega) (hid fun wz hz => ?_) (hid fun wz hz => ?_) (hid fun wz B1 B2 hz h1 h2 => ?_)
    · refine (HF1 wz hz).mono ?_
      rintro e w' ⟨⟨a, c, a', c', rfl, k1, N, k2⟩, hb⟩
      rw [b1]
      exact ⟨⟨a, c, a', c', rfl, k1.move (Keeps.refl _ _) (fun _ _ => trivial) (fun _ _ h => h), N, k2.any⟩, hb⟩
    · refine (HF2 wz hz).mono ?_
      rintro e w' ⟨⟨a, c, a', c', rfl, k1, N, k2⟩, hb⟩
      rw [b2]
      exact ⟨⟨a, c, a', c', rfl, k1.move (Keeps.refl _ _) (fun _ _ => trivial) (fun _ _ h => h), N, k2.any⟩, hb⟩
    · refine (HF3 wz B1 B2 hz h1 h2).mono ?_
      rintro e w' ⟨⟨a, c, a', c', rfl, k1, N, k2⟩, hb⟩
      rw [o3, List.length_append] at k1 k2 ⊢
      rw [List.map_append] at k1 k2
      rw [e3]
      exact ⟨⟨a, c, a', c', rfl, k1.move (Keeps.refl _ _) (fun _ _ => trivial) (fun _ _ h => h), N, k2.any⟩, hb⟩
  · have hb' : ((fitR p v).2 && (fitR q u).2) = false := by simpa using hb
    have e4 : (fitR (.mk 7 ⟨#[]⟩ [] 0 [p, q]) (.mk 4 0 ⟨#[]⟩ [v, u])).2 = false := by
      rw [e3]
      split
      · next h => rw [h] at hb'; simpa using hb'
      · rfl
    have o3 : (outR (.mk 7 ⟨#[]⟩ [] 0 [p, q]) (.mk 4 0 ⟨#[]⟩ [v, u])).length = 0 := by rw [outR, e4]; rfl
    refine pairs_no w (outR p v).length (outR q u).length (fitR p v).2 (fitR q u).2 hb' (hid fun wz hz => ?_) (hid fun wz hz => ?_) (hid fun wz B1 B2 hz h1 h2 => ?_)
    · refine (HF1 wz hz).mono ?_
      rintro e w' ⟨⟨a, c, a', c', rfl, -⟩, hb⟩
      exact ⟨⟨a, c, a', c', rfl⟩, hb⟩
    · refine (HF2 wz hz).mono ?_
      rintro e w' ⟨⟨a, c, a', c', rfl, -⟩, hb⟩
      exact ⟨⟨a, c, a', c', rfl⟩, hb⟩
    · refine (HF3 wz B1 B2 hz h1 h2).mono ?_
      rintro e w' ⟨⟨a, c, a', c', rfl, -⟩, hb⟩
      rw [o3, e4]
      exact ⟨⟨a, c, a', c', rfl⟩, hb⟩
end Go.Proofs.YtjodgnkhociaaaaGreat
