/- What a gatherer has gathered; FreeTypes. -/
import Derived.Shelf.SlIterI.Nil
import Derived.Shelf.SortM.Plain
import Derived.Shelf.SortM.SortNone
import Derived.Test.YtfeppchgmobfpaaGreatDoorShelfKeys
import Derived.Test.YtfeppchgmobfpaaGreatDoorTgX2
namespace Go.Proofs.YtfeppchgmobfpaaGreatDoor
open Go.RowKit
set_option linter.unusedVariables false
set_option linter.unusedSimpArgs false

set_option maxHeartbeats 1000000 in
set_option maxRecDepth 100000 in
theorem newGatherer_any (w : World) : Calls Tryz.prog 55 #[] w fun r w' => r = .returned (.pointer (some ⟨w.heap.size + 3, 0, none⟩)) ∧ (∃ own, Gt w.heap.size (w.heap.size + 3) w' own [] (fun _ => false) (fun _ => false) 0) ∧ Below w.heap.size w w' := by
  have hmm := @run_makeMap Tryz.prog
  have GO : Hid ((∃ own, Gt w.heap.size (w.heap.size + 3) ((((w.alloc (.map #[] 0)).alloc (.map #[] 0)).alloc (.map #[] 0)).alloc (.cells #[.pointer none, .slice none 0 0, .map none, .slice none 0 0, .map none, .slice none 0 0, .map (some w.heap.size), .map (some (w.heap.size + 1)), .map (some (w.heap.size + 1 + 1))] GT)) own [] (fun _ => false) (fun _ => false) 0) ∧ Below w.heap.size w ((((w.alloc (.map #[] 0)).alloc (.map #[] 0)).alloc (.map #[] 0)).alloc (.cells #[.pointer none, .slice none 0 0, .map none, .slice none 0 0, .map none, .slice none 0 0, .map (some w.heap.size), .map (some (w.heap.size + 1)), .map (some (w.heap.size + 1 + 1))] GT))) := by
    have b1 : Below w.heap.size w (w.alloc (.map #[] 0)) := bl_alloc (Below.refl _ _) _
    have s1 := set_new w
    have s2 := set_new (w.alloc (.map #[] 0))
    rw [size_alloc] at s2
    have e3 := heap_alloc_at (((w.alloc (.map #[] 0)).alloc (.map #[] 0)).alloc (.map #[] 0)) (.cells #[.pointer none, .slice none 0 0, .map none, .slice none 0 0, .map none, .slice none 0 0, .map (some w.heap.size), .map (some (w.heap.size + 1)), .map (some (w.heap.size + 1 + 1))] GT)
    rw [size_alloc, size_alloc, size_alloc] at e3
    have st : ∀ {u : World} {C : Nat} {n : Nat} {S : Int → Bool} (o : Obj), SetIs u C n S → SetIs (u.alloc o) C n S := fun o h => h.block ((bl_alloc (Below.refl _ _) o).block _ h.lt)
    refine ⟨⟨_, _, .map none, .slice none 0 0, w.heap.size, w.heap.size + 1, ⟨⟨e3⟩, rfl, rfl, rfl, rfl, Scp.init _ _, by omega, by simp⟩, rfl, rfl, st _ (st _ (st _ s1)), st _ (st _ s2), ⟨by omega, by omega, by omega, by omega, by omega⟩, rfl⟩, bl_alloc (bl_alloc (bl_alloc b1 _) _) _⟩
  go_enter Tryz.func55, Tryz.ntmps55
  go_wp2
  go_ret
  exact ⟨rfl, GO.out⟩

set_option maxHeartbeats 1000000 in
set_option maxRecDepth 100000 in
theorem gatheredOf_big (w : World) (k b o : Nat) (t : Tt) (hP : PAt w (fun b => b < w.heap.size) k b o t) (hd : t.deepest ≤ 2097152) (hc : t.cnt ≤ 68719476736) : Calls Tryz.prog 29 #[.pointer (some ⟨b, o, none⟩)] w fun r w' => r = .returned (.pointer (some ⟨w.heap.size + 3, 0, none⟩)) ∧ (∃ own, Gt w.heap.size (w.heap.size + 3) w' own [] (t.fv []) t.av (t.cnt * 8388608)) ∧ Below w.heap.size w w' := by
  have NQ := hid (newGatherer_any w)
  have OQ : Hid (∀ wz own, Below w.heap.size w wz → Gt w.heap.size (w.heap.size + 3) wz own [] (fun _ => false) (fun _ => false) 0 → Calls Tryz.prog 56 #[.pointer (some ⟨w.heap.size + 3, 0, none⟩), .pointer (some ⟨b, o, none⟩)] wz fun r w' => r = .returned (.tuple #[]) ∧ (∃ own', Gt w.heap.size (w.heap.size + 3) w' own' [] (t.fv []) t.av (t.cnt * 8388608)) ∧ Below w.heap.size w w') := fun wz own hz hG => by
    refine (ofType_any w.heap.size (w.heap.size + 3) (by omega) k wz own [] _ _ 0 b o t hG (hP.move (Keeps.of_below hz) (fun _ h => h)) (by simp; omega) (by omega)).mono ?_
    rintro r w' ⟨rfl, own', hG', hE'⟩
    refine ⟨rfl, ⟨own', ?_⟩, hz.trans (hE'.below hz.size (fun b hb => (hG.own b hb).1))⟩
    have q1 : (fun x => false || t.fv [] x) = t.fv [] := by funext x; simp
    have q2 : (fun x => false || t.av x) = t.av := by funext x; simp
    rw [q1, q2, Nat.zero_add] at hG'
    exact hG'
  clear hP hc hd
  go_enter Tryz.func29, Tryz.ntmps29
  go_wp2_with (first
    | (go_at_call 55; refine (NQ.out).mono ?_; rintro r w2 ⟨rfl, ⟨own2, hG2⟩, hB2⟩; have G2 := hid hG2; have B2 := hid hB2; clear hG2 hB2)
    | (go_at_call 56; refine (OQ.out _ _ B2.out G2.out).mono ?_; rintro r w3 ⟨rfl, hG3, hB3⟩))
  go_ret
  exact ⟨rfl, hG3, hB3⟩
theorem gatheredOf_any (w : World) (k b o : Nat) (t : Tt) (hP : PAt w (fun b => b < w.heap.size) k b o t) (hc : t.cnt ≤ 2097152) : Calls Tryz.prog 29 #[.pointer (some ⟨b, o, none⟩)] w fun r w' => r = .returned (.pointer (some ⟨w.heap.size + 3, 0, none⟩)) ∧ (∃ own, Gt w.heap.size (w.heap.size + 3) w' own [] (t.fv []) t.av (t.cnt * 8388608)) ∧ Below w.heap.size w w' := gatheredOf_big w k b o t hP (by have := Tt.deepest_le t; omega) (by omega)
/-- The free numbers, rising, each once. -/
def Tt.IsFree (S : Int → Bool) (l : List Int) : Prop := l.Pairwise (· < ·) ∧ ∀ x, x ∈ l ↔ S x = true
theorem Gt.free {L M : Nat} {w : World} {own : Nat → Prop} {e : List (Int × Int)} {F A : Int → Bool} {n : Nat} (h : Gt L M w own e F A n) : ∃ Cf, w.cell? ⟨M, 6, none⟩ = some (.map (some Cf)) ∧ SetIs w Cf n F := by
  obtain ⟨vs, mv, lv, Cf, Ca, h1, h2, h3, h4, h5, h6, rfl⟩ := h
  exact ⟨Cf, (h1.arr.cell 6).trans h2, h4⟩
theorem sortsA (m : Nat) : AnyZI.SortsIn Tryz.prog Tryz.sortedA_ren Fence.wide m :=
  ⟨fun blk off cap ss W hH hblk hsz => callsIn_wide.2 (AnyM.slices_Sort_int Tryz.sortA blk off cap ss W hH hblk hsz),
   fun p cap W => callsIn_wide.2 (AnyM.slices_Sort_int_none Tryz.sortA p cap W)⟩
/-- A slice of numbers. -/
def Ls (w : World) (K : Nat → Prop) (v : Value) (l : List Int) : Prop :=
  (∃ b o c, v = .slice (some ⟨b, o, none⟩) l.length c ∧ K b ∧ l.length ≤ c ∧ l.length ≤ maxLen ∧ ∀ (j : Nat) x, l[j]? = some x → w.cell? ⟨b, o + j, none⟩ = some (.int .i64 x)) ∨ (l = [] ∧ ∃ p c, v = .slice p 0 c)
theorem Ls.of_own {w : World} {g : Nat} {e : TypeId} {v : Value} {l : List Int} (h : w.ownsRow g e 1 v l.length (l.map (.int .i64))) : Ls w (fun b => g ≤ b) v l := by
  rcases h.2 with ⟨rfl, h0⟩ | ⟨b, cap, cur, rfl, hb, hc, hn, hm, hs, ht⟩
  · exact .inr ⟨List.eq_nil_of_length_eq_zero h0, _, _, rfl⟩
  · refine .inl ⟨b, 0, cap, rfl, hb, hn, Nat.le_trans hn hm, fun j x hx => ?_⟩
    rw [cell_at hc, Nat.zero_add]
    have h1 : (l.map (Value.int .i64))[j]? = some (.int .i64 x) := by rw [List.getElem?_map, hx]; rfl
    rw [← ht, List.getElem?_take] at h1
    split at h1
    · simpa using h1
    · cases h1
theorem Ls.move {w w' : World} {K K' : Nat → Prop} {v : Value} {l : List Int} (h : Ls w K v l) (hk : Keeps K w w') (hK : ∀ b, K b → K' b) : Ls w' K' v l := by
  rcases h with ⟨b, o, c, hv, hb, hl, hm, hc⟩ | h
  · exact .inl ⟨b, o, c, hv, hK b hb, hl, hm, fun j x hx => hk _ _ _ hb (hc j x hx)⟩
  · exact .inr h
theorem Ls.below {w w' : World} {K : Nat → Prop} {v : Value} {l : List Int} (h : Ls w K v l) (hb : Below w.heap.size w w') : Ls w' K v l := h.move (Keeps.of_below hb) fun _ h => h
theorem Ls.form {w : World} {K : Nat → Prop} {v : Value} {l : List Int} (h : Ls w K v l) : ∃ a c, v = .slice a l.length c ∧ l.length ≤ maxLen := by
  rcases h with ⟨b, o, c, rfl, -, -, hm, -⟩ | ⟨rfl, p, c, rfl⟩
  · exact ⟨_, _, rfl, hm⟩
  · exact ⟨_, _, rfl, Nat.zero_le _⟩
theorem mem_intKeys {H : Type} {w : World} {C n : Nat} {R : Value → Option (DataW H × List MemPlace)} {D : DataW H} (h : w.ownsMap Tryz.prog 3 R C n D) : (Go.intKeys D).Nodup ∧ ∀ x, x ∈ Go.intKeys D ↔ Maps.has D (.int .i64 x) = true := by
  obtain ⟨es, hD, hpw, _⟩ := h.entries int_key
  obtain ⟨es', hD', hko⟩ := h.keysOf
  obtain rfl : es = es' := by rw [hD] at hD'; simpa using hD'
  subst hD
  have hk : ∀ p ∈ es, ∃ x, p.1 = .int .i64 x := fun p hp => by obtain ⟨v, hv⟩ := hko p hp; obtain ⟨x, _, hx, _⟩ := Maps.keyOf_i64 Tryz.underlying3 hv; exact ⟨x, hx⟩
  refine ⟨?_, fun x => ?_⟩
  · show (es.map fun p => Go.intOf p.1).Nodup
    refine List.pairwise_map.2 (hpw.imp_of_mem fun {p q} hp' hq' hne e => hne ?_)
    obtain ⟨a, ha⟩ := hk p hp'
    obtain ⟨b, hb⟩ := hk q hq'
    rw [ha, hb] at e ⊢
    exact congrArg _ e
  · rw [Maps.has_eq, List.any_eq_true]
    show x ∈ es.map (fun p => Go.intOf p.1) ↔ _
    rw [List.mem_map]
    constructor
    · rintro ⟨p, hp', rfl⟩
      obtain ⟨a, ha⟩ := hk p hp'
      exact ⟨p, hp', by rw [ha]; simp [Lit.sameKey, Go.intOf]⟩
    · rintro ⟨p, hp', hs⟩
      obtain ⟨a, ha⟩ := hk p hp'
      rw [ha] at hs
      exact ⟨p, hp', by rw [ha]; simpa [Lit.sameKey, Go.intOf] using hs⟩
end Go.Proofs.YtfeppchgmobfpaaGreatDoor
