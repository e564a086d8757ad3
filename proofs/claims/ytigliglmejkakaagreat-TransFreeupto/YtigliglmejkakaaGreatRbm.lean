/- What a gatherer has gathered; FreeTypes. FreeTypes. What stands free in the target type of a type, a scheme, an Abs: plain mathematics; has. -/
import Derived.Shelf.SlIterI.Nil
import Derived.Shelf.SortM.Plain
import Derived.Shelf.SortM.SortNone
import Derived.Test.YtigliglmejkakaaGreatRbk
import Derived.Test.YtigliglmejkakaaGreatRbl
import Derived.Test.YtigliglmejkakaaGreatRbi
namespace Go.Proofs.YtigliglmejkakaaGreat.Tgt
open Go.RowKit
set_option linter.unusedVariables false
set_option linter.unusedSimpArgs false

set_option maxHeartbeats 1000000 in
set_option maxRecDepth 100000 in
theorem newGatherer_any (w : World) : Calls Tryz.prog 69 #[] w fun r w' => r = .returned (.pointer (some ⟨w.heap.size + 3, 0, none⟩)) ∧ (∃ own, Gt w.heap.size (w.heap.size + 3) w' own [] (fun _ => false) (fun _ => false) 0) ∧ Below w.heap.size w w' := by
  have hmm := @run_makeMap Tryz.prog
  have GO : Hid ((∃ own, Gt w.heap.size (w.heap.size + 3) ((((w.alloc (.map #[] 0)).alloc (.map #[] 0)).alloc (.map #[] 0)).alloc (.cells #[.pointer none, .slice none 0 0, .map none, .slice none 0 0, .map none, .slice none 0 0, .map (some w.heap.size), .map (some (w.heap.size + 1)), .map (some (w.heap.size + 1 + 1))] GT)) own [] (fun _ => false) (fun _ => false) 0) ∧ Below w.heap.size w ((((w.alloc (.map #[] 0)).alloc (.map #[] 0)).alloc (.map #[] 0)).alloc (.cells #[.pointer none, .slice none 0 0, .map none, .slice none 0 0, .map none, .slice none 0 0, .map (some w.heap.size), .map (some (w.heap.size + 1)), .map (some (w.heap.size + 1 + 1))] GT))) := by
    have b1 : Below w.heap.size w (w.alloc (.map #[] 0)) := bl_alloc (Below.refl _ _) _
    have s1 := set_new w
    have s2 := set_new (w.alloc (.map #[] 0))
    rw [size_alloc] at s2
    have e3 := heap_alloc_at (((w.alloc (.map #[] 0)).alloc (.map #[] 0)).alloc (.map #[] 0)) (.cells #[.pointer none, .slice none 0 0, .map none, .slice none 0 0, .map none, .slice none 0 0, .map (some w.heap.size), .map (some (w.heap.size + 1)), .map (some (w.heap.size + 1 + 1))] GT)
    rw [size_alloc, size_alloc, size_alloc] at e3
    have st : ∀ {u : World} {C : Nat} {n : Nat} {S : Int → Bool} (o : Obj), SetIs u C n S → SetIs (u.alloc o) C n S := fun o h => h.block ((bl_alloc (Below.refl _ _) o).block _ h.lt)
    refine ⟨⟨_, _, .map none, .slice none 0 0, w.heap.size, w.heap.size + 1, ⟨⟨e3⟩, rfl, rfl, rfl, rfl, Scp.init _ _, by omega, by simp⟩, rfl, rfl, st _ (st _ (st _ s1)), st _ (st _ s2), ⟨by omega, by omega, by omega, by omega, by omega⟩, rfl⟩, bl_alloc (bl_alloc (bl_alloc b1 _) _) _⟩
  go_enter Tryz.func69, Tryz.ntmps69
  go_wp2
  go_ret
  exact ⟨rfl, GO.out⟩

set_option maxHeartbeats 1000000 in
set_option maxRecDepth 100000 in
theorem gatheredOf_big (w : World) (k b o : Nat) (t : Tt) (hP : PAt w (fun b => b < w.heap.size) k b o t) (hd : t.deepest ≤ 2097152) (hc : t.cnt ≤ 68719476736) : Calls Tryz.prog 34 #[.pointer (some ⟨b, o, none⟩)] w fun r w' => r = .returned (.pointer (some ⟨w.heap.size + 3, 0, none⟩)) ∧ (∃ own, Gt w.heap.size (w.heap.size + 3) w' own [] (t.fv []) t.av (t.cnt * 8388608)) ∧ Below w.heap.size w w' := by
  have NQ := hid (newGatherer_any w)
  have OQ : Hid (∀ wz own, Below w.heap.size w wz → Gt w.heap.size (w.heap.size + 3) wz own [] (fun _ => false) (fun _ => false) 0 → Calls Tryz.prog 70 #[.pointer (some ⟨w.heap.size + 3, 0, none⟩), .pointer (some ⟨b, o, none⟩)] wz fun r w' => r = .returned (.tuple #[]) ∧ (∃ own', Gt w.heap.size (w.heap.size + 3) w' own' [] (t.fv []) t.av (t.cnt * 8388608)) ∧ Below w.heap.size w w') := fun wz own hz hG => by
    refine (ofType_any w.heap.size (w.heap.size + 3) (by omega) k wz own [] _ _ 0 b o t hG (hP.move (Keeps.of_below hz) (fun _ h => h)) (by simp; omega) (by omega)).mono ?_
    rintro r w' ⟨rfl, own', hG', hE'⟩
    refine ⟨rfl, ⟨own', ?_⟩, hz.trans (hE'.below hz.size (fun b hb => (hG.own b hb).1))⟩
    have q1 : (fun x => false || t.fv [] x) = t.fv [] := by funext x; simp
    have q2 : (fun x => false || t.av x) = t.av := by funext x; simp
    rw [q1, q2, Nat.zero_add] at hG'
    exact hG'
  clear hP hc hd
  go_enter Tryz.func34, Tryz.ntmps34
  go_wp2_with (first
    | (go_at_call 69; refine (NQ.out).mono ?_; rintro r w2 ⟨rfl, ⟨own2, hG2⟩, hB2⟩; have G2 := hid hG2; have B2 := hid hB2; clear hG2 hB2)
    | (go_at_call 70; refine (OQ.out _ _ B2.out G2.out).mono ?_; rintro r w3 ⟨rfl, hG3, hB3⟩))
  go_ret
  exact ⟨rfl, hG3, hB3⟩
theorem gatheredOf_any (w : World) (k b o : Nat) (t : Tt) (hP : PAt w (fun b => b < w.heap.size) k b o t) (hc : t.cnt ≤ 2097152) : Calls Tryz.prog 34 #[.pointer (some ⟨b, o, none⟩)] w fun r w' => r = .returned (.pointer (some ⟨w.heap.size + 3, 0, none⟩)) ∧ (∃ own, Gt w.heap.size (w.heap.size + 3) w' own [] (t.fv []) t.av (t.cnt * 8388608)) ∧ Below w.heap.size w w' := gatheredOf_big w k b o t hP (by have := Tt.deepest_le t; omega) (by omega)
/-- The free numbers, rising, each once. -/
def Tt.IsFree (S : Int → Bool) (l : List Int) : Prop := l.Pairwise (· < ·) ∧ ∀ x, x ∈ l ↔ S x = true
theorem Gt.free {L M : Nat} {w : World} {own : Nat → Prop} {e : List (Int × Int)} {F A : Int → Bool} {n : Nat} (h : Gt L M w own e F A n) : ∃ Cf, w.cell? ⟨M, 6, none⟩ = some (.map (some Cf)) ∧ SetIs w Cf n F := by
  obtain ⟨vs, mv, lv, Cf, Ca, h1, h2, h3, h4, h5, h6, rfl⟩ := h
  exact ⟨Cf, (h1.arr.cell 6).trans h2, h4⟩
theorem sortsA (m : Nat) : AnyZI.SortsIn Tryz.prog Tryz.sortedA_ren Fence.wide m :=
  ⟨fun blk off cap ss W hH hblk hsz => callsIn_wide.2 (AnyM.slices_Sort_int Tryz.sortA blk off cap ss W hH hblk hsz),
   fun p cap W => callsIn_wide.2 (AnyM.slices_Sort_int_none Tryz.sortA p cap W)⟩
/-- A slice of numbers. -/
def Ls (w : World) (K : Nat → Prop) (v : Value) (l : List Int) : Prop :=
  (∃ b o c, v = .slice (some ⟨b, o, none⟩) l.length c ∧ K b ∧ l.length ≤ c ∧ l.length ≤ maxLen ∧ ∀ (j : Nat) x, l[j]? = some x → w.cell? ⟨b, o + j, none⟩ = some (.int .i64 x)) ∨ (l = [] ∧ ∃ p c, v = .slice p 0 c)
theorem Ls.of_own {w : World} {g : Nat} {e : TypeId} {v : Value} {l : List Int} (h : w.ownsRow g e 1 v l.length (l.map (.int .i64))) : Ls w (fun b => g ≤ b) v l := by
  rcases h.2 with ⟨rfl, h0⟩ | ⟨b, cap, cur, rfl, hb, hc, hn, hm, hs, ht⟩
  · exact .inr ⟨List.eq_nil_of_length_eq_zero h0, _, _, rfl⟩
  · refine .inl ⟨b, 0, cap, rfl, hb, hn, Nat.le_trans hn hm, fun j x hx => ?_⟩
    rw [cell_at hc, Nat.zero_add]
    have h1 : (l.map (Value.int .i64))[j]? = some (.int .i64 x) := by rw [List.getElem?_map, hx]; rfl
    rw [← ht, List.getElem?_take] at h1
    split at h1
    · simpa using h1
    · cases h1
theorem Ls.move {w w' : World} {K K' : Nat → Prop} {v : Value} {l : List Int} (h : Ls w K v l) (hk : Keeps K w w') (hK : ∀ b, K b → K' b) : Ls w' K' v l := by
  rcases h with ⟨b, o, c, hv, hb, hl, hm, hc⟩ | h
  · exact .inl ⟨b, o, c, hv, hK b hb, hl, hm, fun j x hx => hk _ _ _ hb (hc j x hx)⟩
  · exact .inr h
theorem Ls.below {w w' : World} {K : Nat → Prop} {v : Value} {l : List Int} (h : Ls w K v l) (hb : Below w.heap.size w w') : Ls w' K v l := h.move (Keeps.of_below hb) fun _ h => h
theorem Ls.form {w : World} {K : Nat → Prop} {v : Value} {l : List Int} (h : Ls w K v l) : ∃ a c, v = .slice a l.length c ∧ l.length ≤ maxLen := by
  rcases h with ⟨b, o, c, rfl, -, -, hm, -⟩ | ⟨rfl, p, c, rfl⟩
  · exact ⟨_, _, rfl, hm⟩
  · exact ⟨_, _, rfl, Nat.zero_le _⟩
theorem mem_intKeys {H : Type} {w : World} {C n : Nat} {R : Value → Option (DataW H × List MemPlace)} {D : DataW H} (h : w.ownsMap Tryz.prog 3 R C n D) : (Go.intKeys D).Nodup ∧ ∀ x, x ∈ Go.intKeys D ↔ Maps.has D (.int .i64 x) = true := by
  obtain ⟨es, hD, hpw, _⟩ := h.entries int_key
  obtain ⟨es', hD', hko⟩ := h.keysOf
  obtain rfl : es = es' := by rw [hD] at hD'; simpa using hD'
  subst hD
  have hk : ∀ p ∈ es, ∃ x, p.1 = .int .i64 x := fun p hp => by obtain ⟨v, hv⟩ := hko p hp; obtain ⟨x, _, hx, _⟩ := Maps.keyOf_i64 Tryz.underlying3 hv; exact ⟨x, hx⟩
  refine ⟨?_, fun x => ?_⟩
  · show (es.map fun p => Go.intOf p.1).Nodup
    refine List.pairwise_map.2 (hpw.imp_of_mem fun {p q} hp' hq' hne e => hne ?_)
    obtain ⟨a, ha⟩ := hk p hp'
    obtain ⟨b, hb⟩ := hk q hq'
    rw [ha, hb] at e ⊢
    exact congrArg _ e
  · rw [Maps.has_eq, List.any_eq_true]
    show x ∈ es.map (fun p => Go.intOf p.1) ↔ _
    rw [List.mem_map]
    constructor
    · rintro ⟨p, hp', rfl⟩
      obtain ⟨a, ha⟩ := hk p hp'
      exact ⟨p, hp', by rw [ha]; simp [Lit.sameKey, Go.intOf]⟩
    · rintro ⟨p, hp', hs⟩
      obtain ⟨a, ha⟩ := hk p hp'
      rw [ha] at hs
      exact ⟨p, hp', by rw [ha]; simpa [Lit.sameKey, Go.intOf] using hs⟩
end Go.Proofs.YtigliglmejkakaaGreat.Tgt

namespace Go.Proofs.YtigliglmejkakaaGreat.Tgt
open Go.RowKit Go.Maps Go.Sort Go.Shelf
set_option linter.unusedVariables false
set_option linter.unusedSimpArgs false

theorem sort_strict {ss : List Int} (hn : ss.Nodup) : (ss.mergeSort (fun x y => decide (x ≤ y))).Pairwise (· < ·) ∧ ∀ x, x ∈ ss.mergeSort (fun x y => decide (x ≤ y)) ↔ x ∈ ss := by
  have hp := List.mergeSort_perm ss (fun x y => decide (x ≤ y))
  refine ⟨?_, fun x => hp.mem_iff⟩
  have h1 : (ss.mergeSort (fun x y => decide (x ≤ y))).Pairwise (fun a b => decide (a ≤ b) = true) := List.pairwise_mergeSort (fun a b c h1 h2 => by simp only [decide_eq_true_eq] at *; exact Int.le_trans h1 h2) (fun a b => by simp only [Bool.or_eq_true, decide_eq_true_eq]; exact Int.le_total a b) ss
  have h2 : (ss.mergeSort (fun x y => decide (x ≤ y))).Nodup := hp.nodup_iff.2 hn
  refine (h1.and h2).imp fun {a b} h => ?_
  obtain ⟨h3, h4⟩ := h
  simp only [decide_eq_true_eq] at h3
  omega

theorem nodup_len : ∀ (l K : List Int), l.Nodup → (∀ x ∈ l, x ∈ K) → l.length ≤ K.length
  | [], K, _, _ => Nat.zero_le _
  | x :: r, K, hn, h => by
    obtain ⟨h1, h2⟩ := List.nodup_cons.1 hn
    have hx := h x (by simp)
    have h3 := nodup_len r (K.erase x) h2 (fun y hy => (List.mem_erase_of_ne (show y ≠ x from fun e => h1 (by rw [← e]; exact hy))).2 (h y (List.mem_cons_of_mem _ hy)))
    rw [List.length_erase_of_mem hx] at h3
    have := List.length_pos_of_mem hx
    simp
    omega
set_option maxHeartbeats 2000000 in
set_option maxRecDepth 100000 in
theorem FreeTypes_big (w : World) (n : Nat) (vs : List Value) (t : Tt) (h : TAt w Any n vs t) (hd : t.deepest ≤ 2097152) (hc : t.cnt ≤ 68719476736) (K : List Int) (hK : ∀ x, t.fv [] x = true → x ∈ K) (hKl : K.length ≤ 2097152) : Calls Tryz.prog 13 #[.agg vs.toArray] w fun e w' => ∃ v l, e = .returned v ∧ Ls w' (fun b => w.heap.size ≤ b) v l ∧ Tt.IsFree (t.fv []) l ∧ Below w.heap.size w w' := by
  refine (callsIn_wide (n := 7)).1 ?_
  have B1 : Hid (Below w.heap.size w (w.alloc (.cells vs.toArray 28))) := bl_alloc (Below.refl _ _) _
  have hP : PAt (w.alloc (.cells vs.toArray 28)) (fun b => b < (w.alloc (.cells vs.toArray 28)).heap.size) n w.heap.size 0 t := by
    rw [size_alloc]
    exact PAt.box ((TAt.old h).move (K' := fun b => b < w.heap.size + 1) (Keeps.refl _ _) (fun b hb => by have := hb.2; omega)) 28 (by show w.heap.size < w.heap.size + 1; omega)
  have GQ := gatheredOf_big _ n _ _ t hP hd hc
  rw [size_alloc] at GQ
  have GQ2 : Hid (CallsIn Fence.wide 6 Tryz.prog 34 #[.pointer (some ⟨w.heap.size, 0, none⟩)] (w.alloc (.cells vs.toArray 28)) fun r w' => r = .returned (.pointer (some ⟨w.heap.size + 1 + 3, 0, none⟩)) ∧ (∃ own, Gt (w.heap.size + 1) (w.heap.size + 1 + 3) w' own [] (t.fv []) t.av (t.cnt * 8388608)) ∧ Below (w.heap.size + 1) (w.alloc (.cells vs.toArray 28)) w') := callsIn_wide.2 GQ
  have HC := hid hc
  have HK := hid (And.intro hK hKl)
  obtain ⟨a', c', a, c, rfl⟩ := h.form
  clear h hP GQ hc hd hK hKl
  have KQ : Hid (∀ mb W, CallsIn Fence.wide 6 Tryz.prog 37 #[.map mb] W fun e w' => e = .returned (.func (.func 78) #[] #[.pointer (some ⟨W.heap.size, 0, none⟩)]) ∧ w' = W.alloc (.cells #[.map mb] SM)) := fun mb W => AnyZI.keys_in Tryz.keysA Fence.wide 6 trivial rfl mb W
  have SQ : Hid (∀ (W : World) (Cf : Nat), SetIs W Cf (t.cnt * 8388608) (t.fv []) → CallsIn Fence.wide 6 Tryz.prog 36 #[.func (.func 78) #[] #[.pointer (some ⟨W.heap.size, 0, none⟩)]] (W.alloc (.cells #[.map (some Cf)] SM)) fun e w' => ∃ v l, e = .returned v ∧ Ls w' (fun b => W.heap.size ≤ b) v l ∧ Tt.IsFree (t.fv []) l ∧ Below W.heap.size W w') := fun W Cf hS => by
    obtain ⟨D, hown, hm, hhas⟩ := hS
    have hbl := hown.lt
    obtain ⟨m1', m2'⟩ := mem_intKeys hown
    have hsz : Maps.size D ≤ 2097152 := by
      have h1 : Maps.size D = (intKeys D).length := by
        obtain ⟨es, rfl⟩ := hm
        show es.length = (es.map _).length
        rw [List.length_map]
      rw [h1]
      exact Nat.le_trans (nodup_len (intKeys D) K m1' (fun x hx => HK.out.1 x (by rw [← hhas x]; exact (m2' x).1 hx))) HK.out.2
    have hseq : SeqGives Fence.wide 3 Tryz.prog 78 #[.pointer (some ⟨W.heap.size, 0, none⟩)] encZ (fun ss => ss.Perm (intKeys D)) (Maps.size D) (W.alloc (.cells #[.map (some Cf)] SM)) :=
      AnyZI.keys_gives (ρ := Tryz.keysA_ren) { Tryz.keysA with } Fence.wide _ trivial rfl (by omega) W.heap.size Cf _ D _ (by simp) (by simp) (by
        obtain ⟨es, clock, hb, Ft, hs, hD⟩ := hown
        exact ⟨es, clock, (Below.heap_alloc _ _ Cf hbl).trans hb, Ft, hs, hD⟩)
    have hcc := HC.out
    have cS := AnyZI.sorted_in Tryz.sortedA Fence.wide 6 trivial trivial trivial trivial rfl (by omega) (sortsA _) (enters_of Tryz.func77 (by kernel_rfl) rfl) 78 #[.pointer (some ⟨W.heap.size, 0, none⟩)] trivial (enters_of Tryz.func78 (by kernel_rfl) rfl) _ _ (by unfold maxLen; omega) (by omega) _ hseq
    change CallsIn _ _ Tryz.prog 36 _ _ _ at cS
    refine cS.mono ?_
    rintro e w' ⟨v, ss, rfl, hperm, hrow, hnil, hb⟩
    obtain ⟨m1, m2⟩ := mem_intKeys hown
    have hnd : ss.Nodup := hperm.nodup_iff.2 m1
    obtain ⟨s1, s2⟩ := sort_strict hnd
    have hlen : (ss.mergeSort (fun x y => decide (x ≤ y))).length = ss.length := by simp
    refine ⟨v, ss.mergeSort (fun x y => decide (x ≤ y)), rfl, ?_, ⟨s1, fun x => ?_⟩, ?_⟩
    · rw [← hlen] at hrow
      exact (Ls.of_own hrow).move (Keeps.refl _ _) (fun b hb => by rw [size_alloc] at hb; omega)
    · rw [s2, hperm.mem_iff, m2, hhas]
    · exact bl_tr (bl_alloc (Below.refl _ _) _) hb
  have hf1 : Fence.wide.fn 34 := trivial
  have hf2 : Fence.wide.fn 37 := trivial
  have hf3 : Fence.wide.fn 36 := trivial
  refine callsIn_of_wp Tryz.func13 rfl trivial ?_ rfl
  simp only [Tryz.ntmps13, List.size_toArray, List.length_cons, List.length_nil, Nat.reduceAdd, Nat.reduceSub, Array.replicate_succ, Array.replicate_zero, List.push_toArray, List.append_toArray, List.nil_append, List.cons_append]
  gi_wp2_with (first
    | (gi_at_call 34; refine (GQ2.out).mono ?_; rintro r w2 ⟨rfl, ⟨own2, hG2⟩, hB2⟩; obtain ⟨Cf, hcf, hset⟩ := hG2.free; have HS2 := hid hset; have HB2 : Hid (Below w.heap.size w w2) := B1.out.trans (hB2.mono (by omega)); clear hG2 hB2 hset)
    | (gi_at_call 37; refine (KQ.out _ _).mono ?_; rintro r w3 ⟨rfl, hw⟩; rw [hw]; clear hw w3)
    | (gi_at_call 36; refine (SQ.out w2 Cf HS2.out).mono ?_; rintro r w4 ⟨v4, l4, rfl, hL4, hF4, hB4⟩; obtain ⟨pa, pc, rfl, -⟩ := hL4.form))
  go_ret
  exact ⟨_, l4, rfl, hL4.move (Keeps.refl _ _) (fun b hb => by have := HB2.out.size; omega), hF4, bl_tr HB2.out hB4⟩
theorem FreeTypes_any (w : World) (n : Nat) (vs : List Value) (t : Tt) (h : TAt w Any n vs t) (hc : t.cnt ≤ 2097152) : Calls Tryz.prog 13 #[.agg vs.toArray] w fun e w' => ∃ v l, e = .returned v ∧ Ls w' (fun b => w.heap.size ≤ b) v l ∧ Tt.IsFree (t.fv []) l ∧ Below w.heap.size w w' := FreeTypes_big w n vs t h (by have := Tt.deepest_le t; omega) (by omega) t.nums (fun x hx => Tt.fv_nums x t [] hx) (by rw [Tt.nums_len]; exact hc)
end Go.Proofs.YtigliglmejkakaaGreat.Tgt

namespace Go.Proofs.YtigliglmejkakaaGreat
open Go.RowKit
set_option linter.unusedVariables false
set_option linter.unusedSimpArgs false

theorem fv_leaf {k n : Int} (hk : k ≠ 6) (x : Int) : (Tgt.Tt.mk k n [] []).fv [] x = false := by
  rw [Tgt.Tt.fv_mk]
  simp [Tgt.Tt.k, Tgt.Tt.ks, Tgt.Tt.fvL, hk]
theorem fv_var (n x : Int) : (Tgt.Tt.mk 6 n [] []).fv [] x = true ↔ x = n := by
  rw [Tgt.Tt.fv_mk]
  simp [Tgt.Tt.k, Tgt.Tt.n, Tgt.Tt.ks, Tgt.Tt.fvL, Tgt.lk]
  exact eq_comm
mutual
theorem made_fv (k x : Int) : ∀ t : Tp, t.right = true → (∀ z, z ∉ Tp.all 7 t) → ((Tp.made k t).fv [] x = true ↔ x ∈ Tp.all 6 t ∨ ∃ n ∈ Tp.all 8 t, x = k + n)
  | .mk kd n ks, hr, h7 => by
    rw [Tp.right, Bool.and_eq_true] at hr
    have ho := hr.1
    rw [Tp.made]
    by_cases h1 : kd = 1
    · subst h1
      have : ks = [] := by simp [Tp.own] at ho; exact ho.2
      subst this
      rw [if_pos rfl, fv_leaf (by decide)]
      simp [Tp.all, Tp.allL]
    by_cases h2 : kd = 2
    · subst h2
      have : ks = [] := by simp [Tp.own] at ho; exact ho.2
      subst this
      rw [if_neg (by decide), if_pos rfl, fv_leaf (by decide)]
      simp [Tp.all, Tp.allL]
    by_cases h3 : kd = 3
    · subst h3
      have : ks = [] := by simp [Tp.own] at ho; exact ho.2
      subst this
      rw [if_neg (by decide), if_neg (by decide), if_pos rfl, fv_leaf (by decide)]
      simp [Tp.all, Tp.allL]
    by_cases h6 : kd = 6
    · subst h6
      have : ks = [] := by simp [Tp.own] at ho; exact ho.2
      subst this
      rw [if_neg (by decide), if_neg (by decide), if_neg (by decide), if_pos rfl, fv_var]
      simp [Tp.all, Tp.allL]
    by_cases h8 : kd = 8
    · subst h8
      have : ks = [] := by simp [Tp.own] at ho; exact ho.2
      subst this
      rw [if_neg (by decide), if_neg (by decide), if_neg (by decide), if_neg (by decide), if_pos rfl, fv_var]
      simp [Tp.all, Tp.allL]
    by_cases h77 : kd = 7
    · subst h77
      exact absurd (by simp [Tp.all]) (h7 n)
    have h45 : kd = 4 ∨ kd = 5 := by
      unfold Tp.own at ho
      rw [if_neg (by omega)] at ho
      by_cases h : kd = 4 ∨ kd = 5
      · exact h
      · rw [if_neg h, if_neg (by omega)] at ho; cases ho
    have hall : ∀ q : Int, q ≠ 4 → q ≠ 5 → Tp.all q (.mk kd n ks) = Tp.allL q ks := fun q hq4 hq5 => by
      rw [Tp.all, if_neg (by omega)]; rfl
    rw [if_neg h1, if_neg h2, if_neg h3, if_neg h6, if_neg h8, hall 6 (by decide) (by decide), hall 8 (by decide) (by decide)]
    rw [hall 7 (by decide) (by decide)] at h7
    have ih := madeL_fv k x ks hr.2 h7
    rw [← ih, Tgt.Tt.fv_mk]
    have he : ∀ q : Int, q = 4 ∨ q = 5 → (Tgt.Tt.mk q 0 [] (Tp.madeL k ks)).env [] = [] := fun q hq => by
      unfold Tgt.Tt.env Tgt.Tt.binds
      rcases hq with rfl | rfl <;> simp [Tgt.Tt.k]
    have hk6 : ((Tgt.Tt.mk (if kd = 5 then 5 else 4) 0 [] (Tp.madeL k ks)).k == 6) = false := by
      show ((if kd = 5 then (5 : Int) else 4) == 6) = false
      split <;> rfl
    rw [hk6, Bool.false_and, Bool.false_or, he _ (by split <;> simp)]
    rfl
theorem madeL_fv (k x : Int) : ∀ l : List Tp, Tp.rightL l = true → (∀ z, z ∉ Tp.allL 7 l) → (Tgt.Tt.fvL (Tp.madeL k l) [] x = true ↔ x ∈ Tp.allL 6 l ∨ ∃ n ∈ Tp.allL 8 l, x = k + n)
  | [], _, _ => by rw [Tp.madeL, Tgt.Tt.fvL]; simp [Tp.allL]
  | t :: r, hr, h7 => by
    rw [Tp.rightL, Bool.and_eq_true] at hr
    rw [Tp.allL] at h7
    have i1 := made_fv k x t hr.1 fun z hz => h7 z (List.mem_append.2 (.inl hz))
    have i2 := madeL_fv k x r hr.2 fun z hz => h7 z (List.mem_append.2 (.inr hz))
    rw [Tp.madeL, Tgt.Tt.fvL, Bool.or_eq_true, i1, i2, Tp.allL, Tp.allL]
    simp only [List.mem_append]
    constructor
    · rintro ((h | ⟨n, h, e⟩) | (h | ⟨n, h, e⟩))
      · exact .inl (.inl h)
      · exact .inr ⟨n, .inl h, e⟩
      · exact .inl (.inr h)
      · exact .inr ⟨n, .inr h, e⟩
    · rintro ((h | h) | ⟨n, h | h, e⟩)
      · exact .inl (.inl h)
      · exact .inr (.inl h)
      · exact .inl (.inr ⟨n, h, e⟩)
      · exact .inr (.inr ⟨n, h, e⟩)
end
mutual
theorem fv_bound {x : Int} : ∀ {t : Tgt.Tt} {e : List (Int × Int)}, Tgt.lk e x ≠ none → t.fv e x = true → False
  | .mk k n ls ks, e, he, h => by
    rw [Tgt.Tt.fv_mk, Bool.or_eq_true] at h
    rcases h with h | h
    · simp only [Bool.and_eq_true, Option.isNone_iff_eq_none] at h
      exact he h.2.2
    · refine fvL_bound (l := ks) ?_ h
      unfold Tgt.Tt.env
      split
      · rw [Tgt.lk_cons]
        split
        · simp
        · exact he
      · exact he
theorem fvL_bound {x : Int} : ∀ {l : List Tgt.Tt} {e : List (Int × Int)}, Tgt.lk e x ≠ none → Tgt.Tt.fvL l e x = true → False
  | [], e, he, h => by rw [Tgt.Tt.fvL] at h; cases h
  | t :: r, e, he, h => by
    rw [Tgt.Tt.fvL, Bool.or_eq_true] at h
    exact h.elim (fv_bound he) (fvL_bound he)
end
theorem lk_none_cons {n a x : Int} {e : List (Int × Int)} : Tgt.lk ((n, a) :: e) x = none ↔ n ≠ x ∧ Tgt.lk e x = none := by
  rw [Tgt.lk_cons]
  by_cases h : n = x
  · simp [h]
  · simp [h]
/-- What is free behind binders. -/
theorem around_fv {k : Int} (hk : k = 10 ∨ k = 11) (y : Tgt.Tt) (x : Int) : ∀ (l : List Int) (e : List (Int × Int)), Tgt.lk e x = none → ((Tt.around k l y).fv e x = true ↔ y.fv [] x = true ∧ x ∉ l)
  | [], e, he => by
    show y.fv e x = true ↔ _
    simp only [List.not_mem_nil, not_false_eq_true, and_true]
    exact ⟨Tgt.Tt.fv_weak x y e [] (fun _ => rfl), Tgt.Tt.fv_weak x y [] e (fun _ => he)⟩
  | n :: r, e, he => by
    show (Tgt.Tt.mk k n [] [Tt.around k r y]).fv e x = true ↔ _
    have hk6 : ((Tgt.Tt.mk k n [] [Tt.around k r y]).k == 6) = false := by show (k == 6) = false; rcases hk with rfl | rfl <;> rfl
    have henv : ∃ a, (Tgt.Tt.mk k n [] [Tt.around k r y]).env e = (n, a) :: e := by
      unfold Tgt.Tt.env Tgt.Tt.binds
      rcases hk with rfl | rfl
      · exact ⟨_, if_pos rfl⟩
      · exact ⟨_, if_pos rfl⟩
    obtain ⟨a, ha⟩ := henv
    rw [Tgt.Tt.fv_mk, hk6, Bool.false_and, Bool.false_or, ha]
    have hL : Tgt.Tt.fvL [Tt.around k r y] ((n, a) :: e) x = (Tt.around k r y).fv ((n, a) :: e) x := by rw [Tgt.Tt.fvL, Tgt.Tt.fvL]; exact Bool.or_false _
    show Tgt.Tt.fvL [Tt.around k r y] ((n, a) :: e) x = true ↔ _
    rw [hL, List.mem_cons]
    by_cases hn : n = x
    · subst hn
      constructor
      · intro h
        exfalso
        exact fv_bound (by rw [Tgt.lk_cons]; simp) h
      · rintro ⟨-, h⟩; exact absurd (.inl rfl) h
    · rw [around_fv hk y x r _ (lk_none_cons.2 ⟨hn, he⟩)]
      constructor
      · rintro ⟨h1, h2⟩; exact ⟨h1, fun h => h.elim (fun e => hn e.symm) h2⟩
      · rintro ⟨h1, h2⟩; exact ⟨h1, fun h => h2 (.inr h)⟩
theorem okT_free {t : Tp} (h : t.okT = true) (x : Int) : x ∈ Tp.found 6 t [] ↔ (Tp.made 0 t).fv [] x = true := by
  unfold Tp.okT at h
  simp only [Bool.and_eq_true] at h
  rw [made_fv 0 x t h.1 (Tp.closed_all7 h.2.1), Tp.mem_fnd]
  constructor
  · exact .inl
  · rintro (h1 | ⟨n, hn, -⟩)
    · exact h1
    · exact absurd hn (Tp.closed_all h.2.1 n)
theorem ups_lt : ∀ {l : List Int} {i : Nat}, Tp.ups l i = true → ∀ x ∈ l, (i : Int) ≤ x ∧ x < i + l.length
  | [], i, _, x, hx => by cases hx
  | a :: r, i, h, x, hx => by
    rw [Tp.ups, Bool.and_eq_true, decide_eq_true_eq] at h
    rw [List.length_cons]
    rcases List.mem_cons.1 hx with rfl | hx
    · have := h.1; omega
    · have := ups_lt h.2 x hx
      omega
theorem topK_gt {l : List Int} {x : Int} (h : x ∈ l) : x < topK l := by
  rw [topK_max]
  have := ((foldl_max_le l (l.foldl max (-1)) (-1)).1 (Int.le_refl _)).2 x h
  omega
theorem okS_free {g : Int} {t : Tp} (h : Tp.okS g t = true) (x : Int) : x ∈ Tp.found 6 t [] ↔ (Tp.schemeT g t).fv [] x = true := by
  unfold Tp.okS at h
  simp only [Bool.and_eq_true, decide_eq_true_eq] at h
  obtain ⟨h1, h2, h3⟩ := h
  have hr := rightS_right h1
  unfold Tp.rightS at h1
  simp only [Bool.and_eq_true, decide_eq_true_eq] at h1
  have h7 : ∀ z, z ∉ Tp.all 7 t := fun z hz => by
    have := Tp.mem_fnd.2 hz
    have := List.length_pos_of_mem this
    omega
  unfold Tp.schemeT
  rw [around_fv (.inl rfl) _ x _ [] rfl, made_fv _ x t hr h7, Tp.mem_fnd]
  constructor
  · intro hx
    refine ⟨.inl hx, fun hn => ?_⟩
    have := topK_gt (Tp.mem_fnd.2 hx)
    unfold numsT at hn
    obtain ⟨i, -, hi⟩ := List.mem_map.1 hn
    omega
  · rintro ⟨hx | ⟨n, hn, rfl⟩, hno⟩
    · exact hx
    · exfalso
      have := ups_lt h1.2.1 n (Tp.mem_fnd.2 hn)
      refine hno ?_
      unfold numsT
      refine List.mem_map.2 ⟨n.toNat, List.mem_range.2 (by omega), by omega⟩
theorem free_len {S : Int → Bool} {l m : List Int} (h : Tgt.Tt.IsFree S l) (hm : m.Nodup) (he : ∀ x, x ∈ m ↔ S x = true) : l.length = m.length ∧ ∀ x ∈ m, x ∈ l := by
  have hl : l.Nodup := h.1.imp fun {a b} hab e => by omega
  have h1 : ∀ x, x ∈ l ↔ x ∈ m := fun x => (h.2 x).trans (he x).symm
  refine ⟨Nat.le_antisymm (Tgt.nodup_len l m hl fun x hx => (h1 x).1 hx) (Tgt.nodup_len m l hm fun x hx => (h1 x).2 hx), fun x hx => (h1 x).2 hx⟩
theorem abs_free {y : Tgt.Tt} {l f a : List Int} (h : Tgt.Tt.IsFree ((Tt.around 11 l y).fv []) f) (g : Tgt.Tt.IsFree (y.fv []) a) : f.length ≤ a.length ∧ ∀ x ∈ a, (decide (x ∈ f) == decide (x ∈ l)) = false := by
  have hf : f.Nodup := h.1.imp fun {a b} hab e => by omega
  have hx : ∀ x, x ∈ f ↔ x ∈ a ∧ x ∉ l := fun x => by rw [h.2, around_fv (.inr rfl) y x l [] rfl, g.2]
  refine ⟨Tgt.nodup_len f a hf fun x h => ((hx x).1 h).1, fun x ha => ?_⟩
  by_cases hl : x ∈ l
  · have : x ∉ f := fun h => ((hx x).1 h).2 hl
    simp [hl, this]
  · have : x ∈ f := (hx x).2 ⟨ha, hl⟩
    simp [hl, this]

set_option maxHeartbeats 1000000 in
set_option maxRecDepth 100000 in
/-- Does a list have a number? -/
theorem has_any (w : World) (v : Value) (l : List Int) (n : Int) (h : Ls w Any v l) : Calls Tryz.prog 15 #[v, .int .i64 n] w fun e w' => e = .returned (.bool (decide (n ∈ l))) ∧ w' = w := by
  obtain ⟨a, c, rfl, hm⟩ := h.form
  unfold maxLen at hm
  have HL := hid h
  clear h
  go_enter Tryz.func15, Tryz.ntmps15
  go_wp2
  go_loopw [5] (fun v5 wr => ∃ k : Nat, v5 = .int .i64 k ∧ k ≤ l.length ∧ Hid (n ∉ l.take k) ∧ wr = w) (fun v5 _ => l.length - (intOf v5).toNat)
  case atStart => exact ⟨0, rfl, Nat.zero_le _, (by show ¬ _; simp), rfl⟩
  case round =>
    obtain ⟨k, rfl, hk, hH, rfl⟩ := hrel
    by_cases hlt : k < l.length
    · obtain ⟨b, o, c', hv, -, -, -, hl⟩ := HL.out.resolve_right (fun h => by rw [h.1] at hlt; exact absurd hlt (Nat.not_lt_zero _))
      injection hv with e1 e2 e3
      subst e1
      obtain ⟨x, hx⟩ : ∃ x, l[k]? = some x := ⟨_, List.getElem?_eq_getElem hlt⟩
      have hc := hl k x hx
      have HT : Hid (l.take (k + 1) = l.take k ++ [x]) := by show _ = _; rw [List.take_add_one, hx]; rfl
      have HM : Hid (x ∈ l) := List.mem_of_getElem? hx
      clear hl hx e2 e3
      by_cases hn : x = n
      · have hd : (x == n) = true := by simp [hn]
        have HN : Hid (n ∈ l) := by show _ ∈ _; rw [← hn]; exact HM.out
        clear hn
        go_wp2
        go_ret
        exact ⟨by rw [show decide (n ∈ l) = true from decide_eq_true HN.out]; rfl, rfl⟩
      · have hd : (x == n) = false := by simp [hn]
        have HN : Hid (n ∉ l.take (k + 1)) := by
          show ¬ _
          rw [HT.out, List.mem_append, List.mem_singleton]
          exact fun h => h.elim hH.out (fun e => hn e.symm)
        clear hn
        go_wp2
        go_roundw
        case rel => exact ⟨k + 1, by go_num, hlt, HN, trivial⟩
        case measure => simp [intOf]; omega
    · obtain rfl : k = l.length := by omega
      have HN : Hid (decide (n ∈ l) = false) := by
        show _ = _
        have := hH.out
        rw [List.take_length] at this
        exact decide_eq_false this
      clear hlt hH
      go_wp2
      go_ret
      exact ⟨by rw [HN.out]; rfl, rfl⟩
end Go.Proofs.YtigliglmejkakaaGreat
