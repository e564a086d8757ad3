/- What a gatherer has gathered; FreeTypes. FreeTypes. newPutter; Put. -/
import Derived.Shelf.SlIterI.Nil
import Derived.Shelf.SortM.Plain
import Derived.Shelf.SortM.SortNone
import Derived.Test.YtigliglmejkakaaGreatQbd
import Derived.Test.YtigliglmejkakaaGreatQbe
namespace Go.Proofs.YtigliglmejkakaaGreat.Tgt
open Go.RowKit
set_option linter.unusedVariables false
set_option linter.unusedSimpArgs false

set_option maxHeartbeats 1000000 in
set_option maxRecDepth 100000 in
theorem newGatherer_any (w : World) : Calls Tryz.prog 69 #[] w fun r w' => r = .returned (.pointer (some ⟨w.heap.size + 3, 0, none⟩)) ∧ (∃ own, Gt w.heap.size (w.heap.size + 3) w' own [] (fun _ => false) (fun _ => false) 0) ∧ Below w.heap.size w w' := by
  have hmm := @run_makeMap Tryz.prog
  have GO : Hid ((∃ own, Gt w.heap.size (w.heap.size + 3) ((((w.alloc (.map #[] 0)).alloc (.map #[] 0)).alloc (.map #[] 0)).alloc (.cells #[.pointer none, .slice none 0 0, .map none, .slice none 0 0, .map none, .slice none 0 0, .map (some w.heap.size), .map (some (w.heap.size + 1)), .map (some (w.heap.size + 1 + 1))] GT)) own [] (fun _ => false) (fun _ => false) 0) ∧ Below w.heap.size w ((((w.alloc (.map #[] 0)).alloc (.map #[] 0)).alloc (.map #[] 0)).alloc (.cells #[.pointer none, .slice none 0 0, .map none, .slice none 0 0, .map none, .slice none 0 0, .map (some w.heap.size), .map (some (w.heap.size + 1)), .map (some (w.heap.size + 1 + 1))] GT))) := by
    have b1 : Below w.heap.size w (w.alloc (.map #[] 0)) := bl_alloc (Below.refl _ _) _
    have s1 := set_new w
    have s2 := set_new (w.alloc (.map #[] 0))
    rw [size_alloc] at s2
    have e3 := heap_alloc_at (((w.alloc (.map #[] 0)).alloc (.map #[] 0)).alloc (.map #[] 0)) (.cells #[.pointer none, .slice none 0 0, .map none, .slice none 0 0, .map none, .slice none 0 0, .map (some w.heap.size), .map (some (w.heap.size + 1)), .map (some (w.heap.size + 1 + 1))] GT)
    rw [size_alloc, size_alloc, size_alloc] at e3
    have st : ∀ {u : World} {C : Nat} {n : Nat} {S : Int → Bool} (o : Obj), SetIs u C n S → SetIs (u.alloc o) C n S := fun o h => h.block ((bl_alloc (Below.refl _ _) o).block _ h.lt)
    refine ⟨⟨_, _, .map none, .slice none 0 0, w.heap.size, w.heap.size + 1, ⟨⟨e3⟩, rfl, rfl, rfl, rfl, Scp.init _ _, by omega, by simp⟩, rfl, rfl, st _ (st _ (st _ s1)), st _ (st _ s2), ⟨by omega, by omega, by omega, by omega, by omega⟩, rfl⟩, bl_alloc (bl_alloc (bl_alloc b1 _) _) _⟩
  go_enter Tryz.func69, Tryz.ntmps69
  go_wp2
  go_ret
  exact ⟨rfl, GO.out⟩

set_option maxHeartbeats 1000000 in
set_option maxRecDepth 100000 in
theorem gatheredOf_big (w : World) (k b o : Nat) (t : Tt) (hP : PAt w (fun b => b < w.heap.size) k b o t) (hd : t.deepest ≤ 2097152) (hc : t.cnt ≤ 68719476736) : Calls Tryz.prog 34 #[.pointer (some ⟨b, o, none⟩)] w fun r w' => r = .returned (.pointer (some ⟨w.heap.size + 3, 0, none⟩)) ∧ (∃ own, Gt w.heap.size (w.heap.size + 3) w' own [] (t.fv []) t.av (t.cnt * 8388608)) ∧ Below w.heap.size w w' := by
  have NQ := hid (newGatherer_any w)
  have OQ : Hid (∀ wz own, Below w.heap.size w wz → Gt w.heap.size (w.heap.size + 3) wz own [] (fun _ => false) (fun _ => false) 0 → Calls Tryz.prog 70 #[.pointer (some ⟨w.heap.size + 3, 0, none⟩), .pointer (some ⟨b, o, none⟩)] wz fun r w' => r = .returned (.tuple #[]) ∧ (∃ own', Gt w.heap.size (w.heap.size + 3) w' own' [] (t.fv []) t.av (t.cnt * 8388608)) ∧ Below w.heap.size w w') := fun wz own hz hG => by
    refine (ofType_any w.heap.size (w.heap.size + 3) (by omega) k wz own [] _ _ 0 b o t hG (hP.move (Keeps.of_below hz) (fun _ h => h)) (by simp; omega) (by omega)).mono ?_
    rintro r w' ⟨rfl, own', hG', hE'⟩
    refine ⟨rfl, ⟨own', ?_⟩, hz.trans (hE'.below hz.size (fun b hb => (hG.own b hb).1))⟩
    have q1 : (fun x => false || t.fv [] x) = t.fv [] := by funext x; simp
    have q2 : (fun x => false || t.av x) = t.av := by funext x; simp
    rw [q1, q2, Nat.zero_add] at hG'
    exact hG'
  clear hP hc hd
  go_enter Tryz.func34, Tryz.ntmps34
  go_wp2_with (first
    | (go_at_call 69; refine (NQ.out).mono ?_; rintro r w2 ⟨rfl, ⟨own2, hG2⟩, hB2⟩; have G2 := hid hG2; have B2 := hid hB2; clear hG2 hB2)
    | (go_at_call 70; refine (OQ.out _ _ B2.out G2.out).mono ?_; rintro r w3 ⟨rfl, hG3, hB3⟩))
  go_ret
  exact ⟨rfl, hG3, hB3⟩
theorem gatheredOf_any (w : World) (k b o : Nat) (t : Tt) (hP : PAt w (fun b => b < w.heap.size) k b o t) (hc : t.cnt ≤ 2097152) : Calls Tryz.prog 34 #[.pointer (some ⟨b, o, none⟩)] w fun r w' => r = .returned (.pointer (some ⟨w.heap.size + 3, 0, none⟩)) ∧ (∃ own, Gt w.heap.size (w.heap.size + 3) w' own [] (t.fv []) t.av (t.cnt * 8388608)) ∧ Below w.heap.size w w' := gatheredOf_big w k b o t hP (by have := Tt.deepest_le t; omega) (by omega)
/-- The free numbers, rising, each once. -/
def Tt.IsFree (S : Int → Bool) (l : List Int) : Prop := l.Pairwise (· < ·) ∧ ∀ x, x ∈ l ↔ S x = true
theorem Gt.free {L M : Nat} {w : World} {own : Nat → Prop} {e : List (Int × Int)} {F A : Int → Bool} {n : Nat} (h : Gt L M w own e F A n) : ∃ Cf, w.cell? ⟨M, 6, none⟩ = some (.map (some Cf)) ∧ SetIs w Cf n F := by
  obtain ⟨vs, mv, lv, Cf, Ca, h1, h2, h3, h4, h5, h6, rfl⟩ := h
  exact ⟨Cf, (h1.arr.cell 6).trans h2, h4⟩
theorem sortsA (m : Nat) : AnyZI.SortsIn Tryz.prog Tryz.sortedA_ren Fence.wide m :=
  ⟨fun blk off cap ss W hH hblk hsz => callsIn_wide.2 (AnyM.slices_Sort_int Tryz.sortA blk off cap ss W hH hblk hsz),
   fun p cap W => callsIn_wide.2 (AnyM.slices_Sort_int_none Tryz.sortA p cap W)⟩
/-- A slice of numbers. -/
def Ls (w : World) (K : Nat → Prop) (v : Value) (l : List Int) : Prop :=
  (∃ b o c, v = .slice (some ⟨b, o, none⟩) l.length c ∧ K b ∧ l.length ≤ c ∧ l.length ≤ maxLen ∧ ∀ (j : Nat) x, l[j]? = some x → w.cell? ⟨b, o + j, none⟩ = some (.int .i64 x)) ∨ (l = [] ∧ ∃ p c, v = .slice p 0 c)
theorem Ls.of_own {w : World} {g : Nat} {e : TypeId} {v : Value} {l : List Int} (h : w.ownsRow g e 1 v l.length (l.map (.int .i64))) : Ls w (fun b => g ≤ b) v l := by
  rcases h.2 with ⟨rfl, h0⟩ | ⟨b, cap, cur, rfl, hb, hc, hn, hm, hs, ht⟩
  · exact .inr ⟨List.eq_nil_of_length_eq_zero h0, _, _, rfl⟩
  · refine .inl ⟨b, 0, cap, rfl, hb, hn, Nat.le_trans hn hm, fun j x hx => ?_⟩
    rw [cell_at hc, Nat.zero_add]
    have h1 : (l.map (Value.int .i64))[j]? = some (.int .i64 x) := by rw [List.getElem?_map, hx]; rfl
    rw [← ht, List.getElem?_take] at h1
    split at h1
    · simpa using h1
    · cases h1
theorem Ls.move {w w' : World} {K K' : Nat → Prop} {v : Value} {l : List Int} (h : Ls w K v l) (hk : Keeps K w w') (hK : ∀ b, K b → K' b) : Ls w' K' v l := by
  rcases h with ⟨b, o, c, hv, hb, hl, hm, hc⟩ | h
  · exact .inl ⟨b, o, c, hv, hK b hb, hl, hm, fun j x hx => hk _ _ _ hb (hc j x hx)⟩
  · exact .inr h
theorem Ls.below {w w' : World} {K : Nat → Prop} {v : Value} {l : List Int} (h : Ls w K v l) (hb : Below w.heap.size w w') : Ls w' K v l := h.move (Keeps.of_below hb) fun _ h => h
theorem Ls.form {w : World} {K : Nat → Prop} {v : Value} {l : List Int} (h : Ls w K v l) : ∃ a c, v = .slice a l.length c ∧ l.length ≤ maxLen := by
  rcases h with ⟨b, o, c, rfl, -, -, hm, -⟩ | ⟨rfl, p, c, rfl⟩
  · exact ⟨_, _, rfl, hm⟩
  · exact ⟨_, _, rfl, Nat.zero_le _⟩
theorem mem_intKeys {H : Type} {w : World} {C n : Nat} {R : Value → Option (DataW H × List MemPlace)} {D : DataW H} (h : w.ownsMap Tryz.prog 3 R C n D) : (Go.intKeys D).Nodup ∧ ∀ x, x ∈ Go.intKeys D ↔ Maps.has D (.int .i64 x) = true := by
  obtain ⟨es, hD, hpw, _⟩ := h.entries int_key
  obtain ⟨es', hD', hko⟩ := h.keysOf
  obtain rfl : es = es' := by rw [hD] at hD'; simpa using hD'
  subst hD
  have hk : ∀ p ∈ es, ∃ x, p.1 = .int .i64 x := fun p hp => by obtain ⟨v, hv⟩ := hko p hp; obtain ⟨x, _, hx, _⟩ := Maps.keyOf_i64 Tryz.underlying3 hv; exact ⟨x, hx⟩
  refine ⟨?_, fun x => ?_⟩
  · show (es.map fun p => Go.intOf p.1).Nodup
    refine List.pairwise_map.2 (hpw.imp_of_mem fun {p q} hp' hq' hne e => hne ?_)
    obtain ⟨a, ha⟩ := hk p hp'
    obtain ⟨b, hb⟩ := hk q hq'
    rw [ha, hb] at e ⊢
    exact congrArg _ e
  · rw [Maps.has_eq, List.any_eq_true]
    show x ∈ es.map (fun p => Go.intOf p.1) ↔ _
    rw [List.mem_map]
    constructor
    · rintro ⟨p, hp', rfl⟩
      obtain ⟨a, ha⟩ := hk p hp'
      exact ⟨p, hp', by rw [ha]; simp [Lit.sameKey, Go.intOf]⟩
    · rintro ⟨p, hp', hs⟩
      obtain ⟨a, ha⟩ := hk p hp'
      rw [ha] at hs
      exact ⟨p, hp', by rw [ha]; simpa [Lit.sameKey, Go.intOf] using hs⟩
end Go.Proofs.YtigliglmejkakaaGreat.Tgt

namespace Go.Proofs.YtigliglmejkakaaGreat.Tgt
open Go.RowKit Go.Maps Go.Sort Go.Shelf
set_option linter.unusedVariables false
set_option linter.unusedSimpArgs false

theorem sort_strict {ss : List Int} (hn : ss.Nodup) : (ss.mergeSort (fun x y => decide (x ≤ y))).Pairwise (· < ·) ∧ ∀ x, x ∈ ss.mergeSort (fun x y => decide (x ≤ y)) ↔ x ∈ ss := by
  have hp := List.mergeSort_perm ss (fun x y => decide (x ≤ y))
  refine ⟨?_, fun x => hp.mem_iff⟩
  have h1 : (ss.mergeSort (fun x y => decide (x ≤ y))).Pairwise (fun a b => decide (a ≤ b) = true) := List.pairwise_mergeSort (fun a b c h1 h2 => by simp only [decide_eq_true_eq] at *; exact Int.le_trans h1 h2) (fun a b => by simp only [Bool.or_eq_true, decide_eq_true_eq]; exact Int.le_total a b) ss
  have h2 : (ss.mergeSort (fun x y => decide (x ≤ y))).Nodup := hp.nodup_iff.2 hn
  refine (h1.and h2).imp fun {a b} h => ?_
  obtain ⟨h3, h4⟩ := h
  simp only [decide_eq_true_eq] at h3
  omega

theorem nodup_len : ∀ (l K : List Int), l.Nodup → (∀ x ∈ l, x ∈ K) → l.length ≤ K.length
  | [], K, _, _ => Nat.zero_le _
  | x :: r, K, hn, h => by
    obtain ⟨h1, h2⟩ := List.nodup_cons.1 hn
    have hx := h x (by simp)
    have h3 := nodup_len r (K.erase x) h2 (fun y hy => (List.mem_erase_of_ne (show y ≠ x from fun e => h1 (by rw [← e]; exact hy))).2 (h y (List.mem_cons_of_mem _ hy)))
    rw [List.length_erase_of_mem hx] at h3
    have := List.length_pos_of_mem hx
    simp
    omega
mutual
/-- The numbers of a type. -/
def Tt.nums : Tt → List Int
  | .mk _ n _ ks => n :: Tt.numsL ks
def Tt.numsL : List Tt → List Int
  | [] => []
  | x :: r => Tt.nums x ++ Tt.numsL r
end
mutual
theorem Tt.nums_len : ∀ t : Tt, t.nums.length = t.cnt
  | .mk k n ls ks => by rw [Tt.nums, Tt.cnt, List.length_cons, Tt.numsL_len]
theorem Tt.numsL_len : ∀ l : List Tt, (Tt.numsL l).length = Tt.cntL l
  | [] => by rw [Tt.numsL, Tt.cntL]; rfl
  | x :: r => by rw [Tt.numsL, Tt.cntL, List.length_append, Tt.nums_len, Tt.numsL_len]
end
mutual
theorem Tt.fv_nums (x : Int) : ∀ (t : Tt) (e : List (Int × Int)), t.fv e x = true → x ∈ t.nums
  | .mk k n ls ks, e, h => by
    rw [Tt.fv_mk] at h
    simp only [Bool.or_eq_true, Bool.and_eq_true, beq_iff_eq] at h
    rw [Tt.nums]
    rcases h with ⟨-, h, -⟩ | h
    · have h : n = x := h
      simp [h]
    · exact List.mem_cons_of_mem _ (Tt.fvL_nums x ks _ h)
theorem Tt.fvL_nums (x : Int) : ∀ (l : List Tt) (e : List (Int × Int)), Tt.fvL l e x = true → x ∈ Tt.numsL l
  | [], e, h => by rw [Tt.fvL] at h; cases h
  | t :: r, e, h => by
    rw [Tt.fvL] at h
    simp only [Bool.or_eq_true] at h
    rw [Tt.numsL, List.mem_append]
    exact h.imp (Tt.fv_nums x t e) (Tt.fvL_nums x r e)
end

set_option maxHeartbeats 2000000 in
set_option maxRecDepth 100000 in
theorem FreeTypes_big (w : World) (n : Nat) (vs : List Value) (t : Tt) (h : TAt w Any n vs t) (hd : t.deepest ≤ 2097152) (hc : t.cnt ≤ 68719476736) (K : List Int) (hK : ∀ x, t.fv [] x = true → x ∈ K) (hKl : K.length ≤ 2097152) : Calls Tryz.prog 13 #[.agg vs.toArray] w fun e w' => ∃ v l, e = .returned v ∧ Ls w' (fun b => w.heap.size ≤ b) v l ∧ Tt.IsFree (t.fv []) l ∧ Below w.heap.size w w' := by
  refine (callsIn_wide (n := 7)).1 ?_
  have B1 : Hid (Below w.heap.size w (w.alloc (.cells vs.toArray 28))) := bl_alloc (Below.refl _ _) _
  have hP : PAt (w.alloc (.cells vs.toArray 28)) (fun b => b < (w.alloc (.cells vs.toArray 28)).heap.size) n w.heap.size 0 t := by
    rw [size_alloc]
    exact PAt.box ((TAt.old h).move (K' := fun b => b < w.heap.size + 1) (Keeps.refl _ _) (fun b hb => by have := hb.2; omega)) 28 (by show w.heap.size < w.heap.size + 1; omega)
  have GQ := gatheredOf_big _ n _ _ t hP hd hc
  rw [size_alloc] at GQ
  have GQ2 : Hid (CallsIn Fence.wide 6 Tryz.prog 34 #[.pointer (some ⟨w.heap.size, 0, none⟩)] (w.alloc (.cells vs.toArray 28)) fun r w' => r = .returned (.pointer (some ⟨w.heap.size + 1 + 3, 0, none⟩)) ∧ (∃ own, Gt (w.heap.size + 1) (w.heap.size + 1 + 3) w' own [] (t.fv []) t.av (t.cnt * 8388608)) ∧ Below (w.heap.size + 1) (w.alloc (.cells vs.toArray 28)) w') := callsIn_wide.2 GQ
  have HC := hid hc
  have HK := hid (And.intro hK hKl)
  obtain ⟨a', c', a, c, rfl⟩ := h.form
  clear h hP GQ hc hd hK hKl
  have KQ : Hid (∀ mb W, CallsIn Fence.wide 6 Tryz.prog 37 #[.map mb] W fun e w' => e = .returned (.func (.func 78) #[] #[.pointer (some ⟨W.heap.size, 0, none⟩)]) ∧ w' = W.alloc (.cells #[.map mb] SM)) := fun mb W => AnyZI.keys_in Tryz.keysA Fence.wide 6 trivial rfl mb W
  have SQ : Hid (∀ (W : World) (Cf : Nat), SetIs W Cf (t.cnt * 8388608) (t.fv []) → CallsIn Fence.wide 6 Tryz.prog 36 #[.func (.func 78) #[] #[.pointer (some ⟨W.heap.size, 0, none⟩)]] (W.alloc (.cells #[.map (some Cf)] SM)) fun e w' => ∃ v l, e = .returned v ∧ Ls w' (fun b => W.heap.size ≤ b) v l ∧ Tt.IsFree (t.fv []) l ∧ Below W.heap.size W w') := fun W Cf hS => by
    obtain ⟨D, hown, hm, hhas⟩ := hS
    have hbl := hown.lt
    obtain ⟨m1', m2'⟩ := mem_intKeys hown
    have hsz : Maps.size D ≤ 2097152 := by
      have h1 : Maps.size D = (intKeys D).length := by
        obtain ⟨es, rfl⟩ := hm
        show es.length = (es.map _).length
        rw [List.length_map]
      rw [h1]
      exact Nat.le_trans (nodup_len (intKeys D) K m1' (fun x hx => HK.out.1 x (by rw [← hhas x]; exact (m2' x).1 hx))) HK.out.2
    have hseq : SeqGives Fence.wide 3 Tryz.prog 78 #[.pointer (some ⟨W.heap.size, 0, none⟩)] encZ (fun ss => ss.Perm (intKeys D)) (Maps.size D) (W.alloc (.cells #[.map (some Cf)] SM)) :=
      AnyZI.keys_gives (ρ := Tryz.keysA_ren) { Tryz.keysA with } Fence.wide _ trivial rfl (by omega) W.heap.size Cf _ D _ (by simp) (by simp) (by
        obtain ⟨es, clock, hb, Ft, hs, hD⟩ := hown
        exact ⟨es, clock, (Below.heap_alloc _ _ Cf hbl).trans hb, Ft, hs, hD⟩)
    have hcc := HC.out
    have cS := AnyZI.sorted_in Tryz.sortedA Fence.wide 6 trivial trivial trivial trivial rfl (by omega) (sortsA _) (enters_of Tryz.func77 (by kernel_rfl) rfl) 78 #[.pointer (some ⟨W.heap.size, 0, none⟩)] trivial (enters_of Tryz.func78 (by kernel_rfl) rfl) _ _ (by unfold maxLen; omega) (by omega) _ hseq
    change CallsIn _ _ Tryz.prog 36 _ _ _ at cS
    refine cS.mono ?_
    rintro e w' ⟨v, ss, rfl, hperm, hrow, hnil, hb⟩
    obtain ⟨m1, m2⟩ := mem_intKeys hown
    have hnd : ss.Nodup := hperm.nodup_iff.2 m1
    obtain ⟨s1, s2⟩ := sort_strict hnd
    have hlen : (ss.mergeSort (fun x y => decide (x ≤ y))).length = ss.length := by simp
    refine ⟨v, ss.mergeSort (fun x y => decide (x ≤ y)), rfl, ?_, ⟨s1, fun x => ?_⟩, ?_⟩
    · rw [← hlen] at hrow
      exact (Ls.of_own hrow).move (Keeps.refl _ _) (fun b hb => by rw [size_alloc] at hb; omega)
    · rw [s2, hperm.mem_iff, m2, hhas]
    · exact bl_tr (bl_alloc (Below.refl _ _) _) hb
  have hf1 : Fence.wide.fn 34 := trivial
  have hf2 : Fence.wide.fn 37 := trivial
  have hf3 : Fence.wide.fn 36 := trivial
  refine callsIn_of_wp Tryz.func13 rfl trivial ?_ rfl
  simp only [Tryz.ntmps13, List.size_toArray, List.length_cons, List.length_nil, Nat.reduceAdd, Nat.reduceSub, Array.replicate_succ, Array.replicate_zero, List.push_toArray, List.append_toArray, List.nil_append, List.cons_append]
  gi_wp2_with (first
    | (gi_at_call 34; refine (GQ2.out).mono ?_; rintro r w2 ⟨rfl, ⟨own2, hG2⟩, hB2⟩; obtain ⟨Cf, hcf, hset⟩ := hG2.free; have HS2 := hid hset; have HB2 : Hid (Below w.heap.size w w2) := B1.out.trans (hB2.mono (by omega)); clear hG2 hB2 hset)
    | (gi_at_call 37; refine (KQ.out _ _).mono ?_; rintro r w3 ⟨rfl, hw⟩; rw [hw]; clear hw w3)
    | (gi_at_call 36; refine (SQ.out w2 Cf HS2.out).mono ?_; rintro r w4 ⟨v4, l4, rfl, hL4, hF4, hB4⟩; obtain ⟨pa, pc, rfl, -⟩ := hL4.form))
  go_ret
  exact ⟨_, l4, rfl, hL4.move (Keeps.refl _ _) (fun b hb => by have := HB2.out.size; omega), hF4, bl_tr HB2.out hB4⟩
theorem FreeTypes_any (w : World) (n : Nat) (vs : List Value) (t : Tt) (h : TAt w Any n vs t) (hc : t.cnt ≤ 2097152) : Calls Tryz.prog 13 #[.agg vs.toArray] w fun e w' => ∃ v l, e = .returned v ∧ Ls w' (fun b => w.heap.size ≤ b) v l ∧ Tt.IsFree (t.fv []) l ∧ Below w.heap.size w w' := FreeTypes_big w n vs t h (by have := Tt.deepest_le t; omega) (by omega) t.nums (fun x hx => Tt.fv_nums x t [] hx) (by rw [Tt.nums_len]; exact hc)
end Go.Proofs.YtigliglmejkakaaGreat.Tgt

namespace Go.Proofs.YtigliglmejkakaaGreat.Tgt
open Go.RowKit
set_option linter.unusedVariables false
set_option linter.unusedSimpArgs false

theorem Gt.sets {L M : Nat} {w : World} {own : Nat → Prop} {e : List (Int × Int)} {F A : Int → Bool} {n : Nat} (h : Gt L M w own e F A n) : ∃ Cf Ca, w.cell? ⟨M, 6, none⟩ = some (.map (some Cf)) ∧ w.cell? ⟨M, 7, none⟩ = some (.map (some Ca)) ∧ SetIs w Cf n F ∧ SetIs w Ca n A ∧ L ≤ Cf ∧ Cf < M ∧ L ≤ Ca ∧ Ca < M ∧ M < w.heap.size := by
  obtain ⟨vs, mv, lv, Cf, Ca, h1, h2, h3, h4, h5, h6, rfl⟩ := h
  exact ⟨Cf, Ca, (h1.arr.cell 6).trans h2, (h1.arr.cell 7).trans h3, h4, h5, h6.1, h6.2.1, h6.2.2.1, h6.2.2.2.1, h1.arr.lt⟩
theorem SetIs.list {w : World} {C n : Nat} {S : Int → Bool} (h : SetIs w C n S) : ∃ l : List Int, l.length ≤ n ∧ ∀ x, S x = decide (x ∈ l) := by
  obtain ⟨D, h1, h2, h3⟩ := h
  obtain ⟨m1, m2⟩ := mem_intKeys h1
  refine ⟨Go.intKeys D, ?_, fun x => ?_⟩
  · have := h1.size_le
    have e : (Go.intKeys D).length = Maps.size D := by
      obtain ⟨es, rfl⟩ := h2
      simp [Go.intKeys, Maps.size]
    omega
  · rw [← h3 x]
    cases hh : Maps.has D (.int .i64 x)
    · exact (decide_eq_false (fun hm => by rw [(m2 x).1 hm] at hh; cases hh)).symm
    · exact (decide_eq_true ((m2 x).2 hh)).symm
theorem SetIs.nocell {w : World} {C n : Nat} {S : Int → Bool} (h : SetIs w C n S) {b o : Nat} {v : Value} (hb : b = C) (hv : w.cell? ⟨b, o, none⟩ = some v) : False := by
  subst hb
  obtain ⟨D, ⟨es, cl, h1, -⟩, -⟩ := h
  simp [World.cell?, h1] at hv
theorem Arr.lowB {w w' : World} {g : Nat} {T : TypeId} {cur : List Value} {B : Nat} (h : Arr w g T cur) (hb : Below B w w') (hg : g < B) : Arr w' g T cur := ⟨by rw [hb.block g hg]; exact h.b⟩
abbrev PW (num : Int) (v0 v1 v2 v3 : Value) (Cc Ct : Nat) : List Value := [.pointer none, .slice none 0 0, .map none, .slice none 0 0, .map none, .slice none 0 0, .int .i64 num, v0, v1, v2, v3, .map (some Cc), .map (some Ct), .int .i64 0]

set_option maxHeartbeats 2000000 in
set_option maxRecDepth 100000 in
theorem newPutter_any (N : Nat) (w : World) (hN : N ≤ w.heap.size) (L Mg : Nat) (own : Nat → Prop) (F A : Int → Bool) (m : Nat) (hG : Gt L Mg w own [] F A m) (num : Int) (hnum : R64 num) (kb : Nat) (us : List Value) (u : Tt) (hu : TAt w (fun b => b < N) kb us u) (hc : u.cnt ≤ 2097152) (hm : m ≤ 576460752303423488) :
    Calls Tryz.prog 33 #[.pointer (some ⟨Mg, 0, none⟩), .int .i64 num, .agg us.toArray] w fun r w' => Below L w w' ∧ ((F num = false ∧ r = .returned (.pointer none)) ∨ (F num = true ∧ ∃ M own' l, r = .returned (.pointer (some ⟨M, 0, none⟩)) ∧ w.heap.size ≤ M ∧ Pt N M num u (u.fv []) l w' own' [] 0 0 ∧ l.length ≤ 1152921504606846976 ∧ ∀ x, decide (x ∈ l) = (A x || u.fv [] x))) := by
  obtain ⟨Cf, Ca, c6, c7, sF, sA, l1, l2, l3, l4, hMl⟩ := hG.sets
  have hLw : L ≤ w.heap.size := by omega
  obtain ⟨a', c', a, c, rfl⟩ := hu.form
  have B1 : Hid (Below w.heap.size w (w.alloc (.cells #[.int .i64 u.k, .int .i64 u.n, .slice a' u.ls.length c', .slice a u.ks.length c] TY))) := bl_alloc (Below.refl _ _) _
  have k6 : ∀ ob, (w.alloc ob).cell? ⟨Mg, 6, none⟩ = some (.map (some Cf)) := fun ob => ((bl_alloc (Below.refl _ _) ob).cell hMl).trans c6
  have sF1 : SetIs (w.alloc (.cells #[.int .i64 u.k, .int .i64 u.n, .slice a' u.ls.length c', .slice a u.ks.length c] TY)) Cf m F := sF.block (B1.out.block Cf (by omega))
  have q1 := sF1.look num hnum
  have HA := hid sA
  have HU := hid hu
  have HC := hid hc
  clear hG hu sF sF1 hnum c6
  cases hF : F num with
  | false =>
    rw [hF] at q1
    clear HA HU HC hm
    go_enter Tryz.func33, Tryz.ntmps33
    go_wp2
    go_ret
    exact ⟨(bl_alloc (bl_alloc (Below.refl _ _) _) _).mono hLw, .inl ⟨trivial, rfl⟩⟩
  | true =>
    rw [hF] at q1
    have B2 : Hid (Below w.heap.size w ((w.alloc (.cells #[.int .i64 u.k, .int .i64 u.n, .slice a' u.ls.length c', .slice a u.ks.length c] TY)).alloc (.cells #[] 107))) := bl_alloc B1.out _
    have hP : PAt ((w.alloc (.cells #[.int .i64 u.k, .int .i64 u.n, .slice a' u.ls.length c', .slice a u.ks.length c] TY)).alloc (.cells #[] 107)) (fun b => b < ((w.alloc (.cells #[.int .i64 u.k, .int .i64 u.n, .slice a' u.ls.length c', .slice a u.ks.length c] TY)).alloc (.cells #[] 107)).heap.size) kb w.heap.size 0 u := by
      rw [size_alloc, size_alloc]
      have h1 := PAt.box ((TAt.old HU.out).move (K' := fun b => b < w.heap.size + 1 + 1) (Keeps.refl _ _) (fun b hb => by have := hb.2; omega)) TY (by show w.heap.size < w.heap.size + 1 + 1; omega)
      exact h1.move (Keeps.of_below (bl_alloc (Below.refl _ _) _)) (fun _ h => h)
    have GQ := hid (gatheredOf_any _ kb _ _ u hP HC.out)
    rw [size_alloc, size_alloc] at GQ
    clear hP
    have A2 : Hid (Arr ((w.alloc (.cells #[.int .i64 u.k, .int .i64 u.n, .slice a' u.ls.length c', .slice a u.ks.length c] TY)).alloc (.cells #[] 107)) w.heap.size TY [.int .i64 u.k, .int .i64 u.n, .slice a' u.ls.length c', .slice a u.ks.length c]) := Arr.stays ⟨heap_alloc_at _ _⟩ (bl_alloc (Below.refl _ _) _)
    have S2 : Hid (w.heap.size + 1 + 1 = ((w.alloc (.cells #[.int .i64 u.k, .int .i64 u.n, .slice a' u.ls.length c', .slice a u.ks.length c] TY)).alloc (.cells #[] 107)).heap.size) := by show _ = _; rw [size_alloc, size_alloc]
    have PF : Hid (∀ (w4 : World) (M3 Cf3 : Nat) (l : List Int), Below L w w4 → w.heap.size ≤ Cf3 → Cf3 < w4.heap.size → Ca < w4.heap.size → TAt w4 (fun b => b < N) kb [.int .i64 u.k, .int .i64 u.n, .slice a' u.ls.length c', .slice a u.ks.length c] u → (∃ mm, SetIs w4 Cf3 mm (u.fv [])) → (∃ mm, SetIs w4 Ca mm (fun x => A x || u.fv [] x)) → w.heap.size ≤ w4.heap.size → l.length ≤ 1152921504606846976 → (∀ x, (A x || u.fv [] x) = decide (x ∈ l)) → M3 = w4.heap.size → Below L w ((w4.alloc (.cells (PW num (.int .i64 u.k) (.int .i64 u.n) (.slice a' u.ls.length c') (.slice a u.ks.length c) Cf3 Ca).toArray PT)).drew) ∧ ((true = false ∧ (Ending.returned (.pointer (some ⟨M3, 0, none⟩))) = .returned (.pointer none)) ∨ (True ∧ ∃ M own' l, (Ending.returned (.pointer (some ⟨M3, 0, none⟩))) = .returned (.pointer (some ⟨M, 0, none⟩)) ∧ w.heap.size ≤ M ∧ Pt N M num u (u.fv []) l ((w4.alloc (.cells (PW num (.int .i64 u.k) (.int .i64 u.n) (.slice a' u.ls.length c') (.slice a u.ks.length c) Cf3 Ca).toArray PT)).drew) own' [] 0 0 ∧ l.length ≤ 1152921504606846976 ∧ ∀ x, decide (x ∈ l) = (A x || u.fv [] x)))) := by
      intro w4 M3 Cf3 l hB h1 h2 h3 hT hS1 hS2 hle hll hl hM3
      subst hM3
      have hb5 : Below w4.heap.size w4 ((w4.alloc (.cells (PW num (.int .i64 u.k) (.int .i64 u.n) (.slice a' u.ls.length c') (.slice a u.ks.length c) Cf3 Ca).toArray PT)).drew) := (bl_alloc (Below.refl _ _) _).drew
      have hA5 : Arr ((w4.alloc (.cells (PW num (.int .i64 u.k) (.int .i64 u.n) (.slice a' u.ls.length c') (.slice a u.ks.length c) Cf3 Ca).toArray PT)).drew) w4.heap.size PT (PW num (.int .i64 u.k) (.int .i64 u.n) (.slice a' u.ls.length c') (.slice a u.ks.length c) Cf3 Ca) := Arr.stays ⟨heap_alloc_at _ _⟩ (Below.refl _ _).drew
      obtain ⟨m1, hS1⟩ := hS1
      obtain ⟨m2, hS2⟩ := hS2
      refine ⟨hB.trans (hb5.mono (Nat.le_trans hLw hle)), .inr ⟨trivial, w4.heap.size, _, l, rfl, hle, ⟨⟨PW num (.int .i64 u.k) (.int .i64 u.n) (.slice a' u.ls.length c') (.slice a u.ks.length c) Cf3 Ca, .map none, .slice none 0 0, Cf3, Ca, [.int .i64 u.k, .int .i64 u.n, .slice a' u.ls.length c', .slice a u.ks.length c], kb, ⟨hA5, rfl, rfl, rfl, rfl, Scp.init _ _, by omega, by show _ ≤ (w4.alloc _).heap.size; simp⟩, rfl, fun j v hv => ?_, hT.below hb5, rfl, rfl, rfl, ⟨m1, hS1.block (hb5.block Cf3 h2)⟩, ⟨m2, _, hS2.block (hb5.block Ca h3), hl⟩, ⟨h2, h3, by omega⟩, rfl⟩, Int.le_refl _⟩, hll, fun x => (hl x).symm⟩⟩
      match j, hv with
      | 0, hv => exact hv
      | 1, hv => exact hv
      | 2, hv => exact hv
      | 3, hv => exact hv
      | j + 4, hv => simp at hv
    go_enter Tryz.func33, Tryz.ntmps33
    go_wp2_with (first
      | (go_at_call 34; refine (GQ.out).mono ?_; rintro r w3 ⟨rfl, ⟨own3, hG3⟩, hB3⟩; obtain ⟨Cf3, Ca3, z6, -, sF3, -, p1, p2, -, -, p5⟩ := hG3.sets; have B3 : Hid (Below w.heap.size w w3) := B2.out.trans (hB3.mono (by omega)); have A3 := hid (A2.out.stays (hB3.mono (by rw [← S2.out]; exact Nat.le_refl _) : Below _ _ _)); have z7 : w3.cell? ⟨Mg, 7, none⟩ = some (.map (some Ca)) := (B3.out.cell hMl).trans c7; have CQ := hid (copy_any w3 Ca Cf3 m (u.cnt * 8388608) A (u.fv []) (HA.out.block (B3.out.block Ca (by omega))) sF3 (by omega) (by have := HC.out; omega)); have SF3 := hid sF3; have hM3 : Mg < w3.heap.size := (by have := B3.out.size; omega); clear hG3 hB3 sF3)
      | (go_at_call 68; refine (CQ.out).mono ?_; rintro r w4 ⟨rfl, hS4, hg4⟩; have A4 : Arr w4 w.heap.size TY _ := ⟨(grown_ne hg4 A3.out.lt (by omega)).trans A3.out.b⟩; have y4 := A4.cell; have z74 : w4.cell? ⟨Mg, 7, none⟩ = some (.map (some Ca)) := (World.cell?_of_block (w := w3) (a := ⟨Mg, 7, none⟩) (grown_ne hg4 hM3 (by show Mg ≠ Ca; omega))).trans z7; have y5 : ∀ ob, (w4.alloc ob).cell? ⟨Mg, 7, none⟩ = some (.map (some Ca)) := (fun ob => ((bl_alloc (Below.refl _ _) ob).cell (World.block_lt_of_cell? w4 _ z74)).trans z74); have HS4 := hid hS4; have HG4 := hid hg4; have HA4 := hid A4; clear hS4 hg4 A4))
    go_region
    obtain ⟨l, hl1, hl2⟩ := HS4.out.list
    have hb4 : Below L w3 w4 := ⟨HG4.out.os, HG4.out.tape, HG4.out.output, HG4.out.size, fun b hb => HG4.out.block b (by have := B3.out.size; omega) (fun e => by have := Option.some.inj e; omega)⟩
    have hs4 := HG4.out.size
    have hs3 := B3.out.size
    have hTu : TAt w4 (fun b => b < N) kb [.int .i64 u.k, .int .i64 u.n, .slice a' u.ls.length c', .slice a u.ks.length c] u := HU.out.move (fun b oo v hb hv => (World.cell?_of_block (w := w3) (a := ⟨b, oo, none⟩) (HG4.out.block b (by have : b < N := hb; omega) (fun e => HA.out.nocell (Option.some.inj e) hv))).trans ((B3.out.cell (p := ⟨b, oo, none⟩) (Nat.lt_of_lt_of_le hb hN)).trans hv)) (fun _ h => h)
    go_wp2
    go_ret
    exact PF.out w4 _ Cf3 l ((B3.out.mono hLw).trans hb4) (by omega) (by omega) (by omega) hTu ⟨_, SF3.out.block (HG4.out.block Cf3 (by omega) (fun e => by have := Option.some.inj e; omega))⟩ ⟨_, HS4.out⟩ (by omega) (by have := HC.out; omega) hl2 rfl
end Go.Proofs.YtigliglmejkakaaGreat.Tgt
