/- FreeTypes. -/
import Derived.Test.YtfeppchgmobfpaaGreatDoorTgX3
namespace Go.Proofs.YtfeppchgmobfpaaGreatDoor
open Go.RowKit Go.Maps Go.Sort Go.Shelf
set_option linter.unusedVariables false
set_option linter.unusedSimpArgs false

theorem sort_strict {ss : List Int} (hn : ss.Nodup) : (ss.mergeSort (fun x y => decide (x ≤ y))).Pairwise (· < ·) ∧ ∀ x, x ∈ ss.mergeSort (fun x y => decide (x ≤ y)) ↔ x ∈ ss := by
  have hp := List.mergeSort_perm ss (fun x y => decide (x ≤ y))
  refine ⟨?_, fun x => hp.mem_iff⟩
  have h1 : (ss.mergeSort (fun x y => decide (x ≤ y))).Pairwise (fun a b => decide (a ≤ b) = true) := List.pairwise_mergeSort (fun a b c h1 h2 => by simp only [decide_eq_true_eq] at *; exact Int.le_trans h1 h2) (fun a b => by simp only [Bool.or_eq_true, decide_eq_true_eq]; exact Int.le_total a b) ss
  have h2 : (ss.mergeSort (fun x y => decide (x ≤ y))).Nodup := hp.nodup_iff.2 hn
  refine (h1.and h2).imp fun {a b} h => ?_
  obtain ⟨h3, h4⟩ := h
  simp only [decide_eq_true_eq] at h3
  omega

theorem nodup_len : ∀ (l K : List Int), l.Nodup → (∀ x ∈ l, x ∈ K) → l.length ≤ K.length
  | [], K, _, _ => Nat.zero_le _
  | x :: r, K, hn, h => by
    obtain ⟨h1, h2⟩ := List.nodup_cons.1 hn
    have hx := h x (by simp)
    have h3 := nodup_len r (K.erase x) h2 (fun y hy => (List.mem_erase_of_ne (show y ≠ x from fun e => h1 (by rw [← e]; exact hy))).2 (h y (List.mem_cons_of_mem _ hy)))
    rw [List.length_erase_of_mem hx] at h3
    have := List.length_pos_of_mem hx
    simp
    omega
mutual
/-- The numbers of a type. -/
def Tt.nums : Tt → List Int
  | .mk _ n _ ks => n :: Tt.numsL ks
def Tt.numsL : List Tt → List Int
  | [] => []
  | x :: r => Tt.nums x ++ Tt.numsL r
end
mutual
theorem Tt.nums_len : ∀ t : Tt, t.nums.length = t.cnt
  | .mk k n ls ks => by rw [Tt.nums, Tt.cnt, List.length_cons, Tt.numsL_len]
theorem Tt.numsL_len : ∀ l : List Tt, (Tt.numsL l).length = Tt.cntL l
  | [] => by rw [Tt.numsL, Tt.cntL]; rfl
  | x :: r => by rw [Tt.numsL, Tt.cntL, List.length_append, Tt.nums_len, Tt.numsL_len]
end
mutual
theorem Tt.fv_nums (x : Int) : ∀ (t : Tt) (e : List (Int × Int)), t.fv e x = true → x ∈ t.nums
  | .mk k n ls ks, e, h => by
    rw [Tt.fv_mk] at h
    simp only [Bool.or_eq_true, Bool.and_eq_true, beq_iff_eq] at h
    rw [Tt.nums]
    rcases h with ⟨-, h, -⟩ | h
    · have h : n = x := h
      simp [h]
    · exact List.mem_cons_of_mem _ (Tt.fvL_nums x ks _ h)
theorem Tt.fvL_nums (x : Int) : ∀ (l : List Tt) (e : List (Int × Int)), Tt.fvL l e x = true → x ∈ Tt.numsL l
  | [], e, h => by rw [Tt.fvL] at h; cases h
  | t :: r, e, h => by
    rw [Tt.fvL] at h
    simp only [Bool.or_eq_true] at h
    rw [Tt.numsL, List.mem_append]
    exact h.imp (Tt.fv_nums x t e) (Tt.fvL_nums x r e)
end

set_option maxHeartbeats 2000000 in
set_option maxRecDepth 100000 in
theorem FreeTypes_big (w : World) (n : Nat) (vs : List Value) (t : Tt) (h : TAt w Any n vs t) (hd : t.deepest ≤ 2097152) (hc : t.cnt ≤ 68719476736) (K : List Int) (hK : ∀ x, t.fv [] x = true → x ∈ K) (hKl : K.length ≤ 2097152) : Calls Tryz.prog 10 #[.agg vs.toArray] w fun e w' => ∃ v l, e = .returned v ∧ Ls w' (fun b => w.heap.size ≤ b) v l ∧ Tt.IsFree (t.fv []) l ∧ Below w.heap.size w w' := by
  refine (callsIn_wide (n := 7)).1 ?_
  have B1 : Hid (Below w.heap.size w (w.alloc (.cells vs.toArray 25))) := bl_alloc (Below.refl _ _) _
  have hP : PAt (w.alloc (.cells vs.toArray 25)) (fun b => b < (w.alloc (.cells vs.toArray 25)).heap.size) n w.heap.size 0 t := by
    rw [size_alloc]
    exact PAt.box ((TAt.old h).move (K' := fun b => b < w.heap.size + 1) (Keeps.refl _ _) (fun b hb => by have := hb.2; omega)) 25 (by show w.heap.size < w.heap.size + 1; omega)
  have GQ := gatheredOf_big _ n _ _ t hP hd hc
  rw [size_alloc] at GQ
  have GQ2 : Hid (CallsIn Fence.wide 6 Tryz.prog 29 #[.pointer (some ⟨w.heap.size, 0, none⟩)] (w.alloc (.cells vs.toArray 25)) fun r w' => r = .returned (.pointer (some ⟨w.heap.size + 1 + 3, 0, none⟩)) ∧ (∃ own, Gt (w.heap.size + 1) (w.heap.size + 1 + 3) w' own [] (t.fv []) t.av (t.cnt * 8388608)) ∧ Below (w.heap.size + 1) (w.alloc (.cells vs.toArray 25)) w') := callsIn_wide.2 GQ
  have HC := hid hc
  have HK := hid (And.intro hK hKl)
  obtain ⟨a', c', a, c, rfl⟩ := h.form
  clear h hP GQ hc hd hK hKl
  have KQ : Hid (∀ mb W, CallsIn Fence.wide 6 Tryz.prog 28 #[.map mb] W fun e w' => e = .returned (.func (.func 54) #[] #[.pointer (some ⟨W.heap.size, 0, none⟩)]) ∧ w' = W.alloc (.cells #[.map mb] SM)) := fun mb W => AnyZI.keys_in Tryz.keysA Fence.wide 6 trivial rfl mb W
  have SQ : Hid (∀ (W : World) (Cf : Nat), SetIs W Cf (t.cnt * 8388608) (t.fv []) → CallsIn Fence.wide 6 Tryz.prog 27 #[.func (.func 54) #[] #[.pointer (some ⟨W.heap.size, 0, none⟩)]] (W.alloc (.cells #[.map (some Cf)] SM)) fun e w' => ∃ v l, e = .returned v ∧ Ls w' (fun b => W.heap.size ≤ b) v l ∧ Tt.IsFree (t.fv []) l ∧ Below W.heap.size W w') := fun W Cf hS => by
    obtain ⟨D, hown, hm, hhas⟩ := hS
    have hbl := hown.lt
    obtain ⟨m1', m2'⟩ := mem_intKeys hown
    have hsz : Maps.size D ≤ 2097152 := by
      have h1 : Maps.size D = (intKeys D).length := by
        obtain ⟨es, rfl⟩ := hm
        show es.length = (es.map _).length
        rw [List.length_map]
      rw [h1]
      exact Nat.le_trans (nodup_len (intKeys D) K m1' (fun x hx => HK.out.1 x (by rw [← hhas x]; exact (m2' x).1 hx))) HK.out.2
    have hseq : SeqGives Fence.wide 3 Tryz.prog 54 #[.pointer (some ⟨W.heap.size, 0, none⟩)] encZ (fun ss => ss.Perm (intKeys D)) (Maps.size D) (W.alloc (.cells #[.map (some Cf)] SM)) :=
      AnyZI.keys_gives (ρ := Tryz.keysA_ren) { Tryz.keysA with } Fence.wide _ trivial rfl (by omega) W.heap.size Cf _ D _ (by simp) (by simp) (by
        obtain ⟨es, clock, hb, Ft, hs, hD⟩ := hown
        exact ⟨es, clock, (Below.heap_alloc _ _ Cf hbl).trans hb, Ft, hs, hD⟩)
    have hcc := HC.out
    have cS := AnyZI.sorted_in Tryz.sortedA Fence.wide 6 trivial trivial trivial trivial rfl (by omega) (sortsA _) (enters_of Tryz.func53 (by kernel_rfl) rfl) 54 #[.pointer (some ⟨W.heap.size, 0, none⟩)] trivial (enters_of Tryz.func54 (by kernel_rfl) rfl) _ _ (by unfold maxLen; omega) (by omega) _ hseq
    change CallsIn _ _ Tryz.prog 27 _ _ _ at cS
    refine cS.mono ?_
    rintro e w' ⟨v, ss, rfl, hperm, hrow, hnil, hb⟩
    obtain ⟨m1, m2⟩ := mem_intKeys hown
    have hnd : ss.Nodup := hperm.nodup_iff.2 m1
    obtain ⟨s1, s2⟩ := sort_strict hnd
    have hlen : (ss.mergeSort (fun x y => decide (x ≤ y))).length = ss.length := by simp
    refine ⟨v, ss.mergeSort (fun x y => decide (x ≤ y)), rfl, ?_, ⟨s1, fun x => ?_⟩, ?_⟩
    · rw [← hlen] at hrow
      exact (Ls.of_own hrow).move (Keeps.refl _ _) (fun b hb => by rw [size_alloc] at hb; omega)
    · rw [s2, hperm.mem_iff, m2, hhas]
    · exact bl_tr (bl_alloc (Below.refl _ _) _) hb
  have hf1 : Fence.wide.fn 29 := trivial
  have hf2 : Fence.wide.fn 28 := trivial
  have hf3 : Fence.wide.fn 27 := trivial
  refine callsIn_of_wp Tryz.func10 rfl trivial ?_ rfl
  simp only [Tryz.ntmps10, List.size_toArray, List.length_cons, List.length_nil, Nat.reduceAdd, Nat.reduceSub, Array.replicate_succ, Array.replicate_zero, List.push_toArray, List.append_toArray, List.nil_append, List.cons_append]
  gi_wp2_with (first
    | (gi_at_call 29; refine (GQ2.out).mono ?_; rintro r w2 ⟨rfl, ⟨own2, hG2⟩, hB2⟩; obtain ⟨Cf, hcf, hset⟩ := hG2.free; have HS2 := hid hset; have HB2 : Hid (Below w.heap.size w w2) := B1.out.trans (hB2.mono (by omega)); clear hG2 hB2 hset)
    | (gi_at_call 28; refine (KQ.out _ _).mono ?_; rintro r w3 ⟨rfl, hw⟩; rw [hw]; clear hw w3)
    | (gi_at_call 27; refine (SQ.out w2 Cf HS2.out).mono ?_; rintro r w4 ⟨v4, l4, rfl, hL4, hF4, hB4⟩; obtain ⟨pa, pc, rfl, -⟩ := hL4.form))
  go_ret
  exact ⟨_, l4, rfl, hL4.move (Keeps.refl _ _) (fun b hb => by have := HB2.out.size; omega), hF4, bl_tr HB2.out hB4⟩
theorem FreeTypes_any (w : World) (n : Nat) (vs : List Value) (t : Tt) (h : TAt w Any n vs t) (hc : t.cnt ≤ 2097152) : Calls Tryz.prog 10 #[.agg vs.toArray] w fun e w' => ∃ v l, e = .returned v ∧ Ls w' (fun b => w.heap.size ≤ b) v l ∧ Tt.IsFree (t.fv []) l ∧ Below w.heap.size w w' := FreeTypes_big w n vs t h (by have := Tt.deepest_le t; omega) (by omega) t.nums (fun x hx => Tt.fv_nums x t [] hx) (by rw [Tt.nums_len]; exact hc)
end Go.Proofs.YtfeppchgmobfpaaGreatDoor
