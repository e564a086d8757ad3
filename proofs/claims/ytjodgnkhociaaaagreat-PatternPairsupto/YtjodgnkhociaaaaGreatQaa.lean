/- Types as plain data: what the document and the program say of them, as plain functions. How types lie in memory; what calls leave as it was. walk: going through a type's nodes with whatever looks at them. right of one node; Right. -/
import Derived.WalkKit
import Derived.Below
import Derived.Deep.Draws
import Derived.WalkSpells
import Derived.Lib.Walk
import Derived.Deep.QuietTactic
import Derived.Deep.RegionWith
import Derived.Test.YtjodgnkhociaaaaGreatProg
import Derived.BigQuiet
namespace Go.Proofs.YtjodgnkhociaaaaGreat
open Go.RowKit
set_option linter.unusedVariables false

/-- A type: its kind, its number, its parts. -/
inductive Tp where
  | mk (k n : Int) (ks : List Tp)
def Tp.k : Tp → Int | .mk k _ _ => k
def Tp.n : Tp → Int | .mk _ n _ => n
def Tp.ks : Tp → List Tp | .mk _ _ ks => ks
mutual
def Tp.cnt : Tp → Nat
  | .mk _ _ ks => Tp.cntL ks + 1
def Tp.cntL : List Tp → Nat
  | [] => 0
  | x :: r => Tp.cnt x + Tp.cntL r
end
mutual
/-- Going through the nodes: f tells the state behind a node, whether to go into it, whether to go on. -/
def Tp.walk {S : Type} (f : S → Tp → S × Bool × Bool) : Tp → S → S × Bool
  | .mk k n ks => fun s => bif (f s (.mk k n ks)).2.2 && (f s (.mk k n ks)).2.1 then Tp.walkL f ks (f s (.mk k n ks)).1 else ((f s (.mk k n ks)).1, (f s (.mk k n ks)).2.2)
def Tp.walkL {S : Type} (f : S → Tp → S × Bool × Bool) : List Tp → S → S × Bool
  | [] => fun s => (s, true)
  | x :: r => fun s => bif (Tp.walk f x s).2 then Tp.walkL f r (Tp.walk f x s).1 else ((Tp.walk f x s).1, false)
end

theorem Tp.walk_mk {S : Type} (f : S → Tp → S × Bool × Bool) (k n : Int) (ks : List Tp) (s : S) : Tp.walk f (.mk k n ks) s = bif (f s (.mk k n ks)).2.2 && (f s (.mk k n ks)).2.1 then Tp.walkL f ks (f s (.mk k n ks)).1 else ((f s (.mk k n ks)).1, (f s (.mk k n ks)).2.2) := by rw [Tp.walk]
theorem Tp.walkL_nil {S : Type} (f : S → Tp → S × Bool × Bool) (s : S) : Tp.walkL f [] s = (s, true) := by rw [Tp.walkL]
theorem Tp.walkL_cons {S : Type} (f : S → Tp → S × Bool × Bool) (x : Tp) (r : List Tp) (s : S) : Tp.walkL f (x :: r) s = bif (Tp.walk f x s).2 then Tp.walkL f r (Tp.walk f x s).1 else ((Tp.walk f x s).1, false) := by rw [Tp.walkL]

-- which are right
def Tp.into (k : Int) : Bool := decide (1 ≤ k) && decide (k ≤ 8)
def Tp.own (k n : Int) (l : Nat) : Bool :=
  if k = 1 ∨ k = 2 ∨ k = 3 then decide (n = 0) && decide (l = 0)
  else if k = 4 ∨ k = 5 then decide (n = 0) && decide (l = 2)
  else if k = 6 ∨ k = 7 ∨ k = 8 then decide (0 ≤ n) && decide (l = 0)
  else false
def Tp.fRight (s : Unit) (t : Tp) : Unit × Bool × Bool := ((), Tp.into t.k, Tp.own t.k t.n t.ks.length)
mutual
def Tp.right : Tp → Bool
  | .mk k n ks => Tp.own k n ks.length && Tp.rightL ks
def Tp.rightL : List Tp → Bool
  | [] => true
  | x :: r => Tp.right x && Tp.rightL r
end
theorem Tp.own_into {k n : Int} {l : Nat} (h : Tp.own k n l = true) : Tp.into k = true := by
  unfold Tp.own at h
  unfold Tp.into
  split at h
  · rcases ‹k = 1 ∨ k = 2 ∨ k = 3› with rfl | rfl | rfl <;> rfl
  · split at h
    · rcases ‹k = 4 ∨ k = 5› with rfl | rfl <;> rfl
    · split at h
      · rcases ‹k = 6 ∨ k = 7 ∨ k = 8› with rfl | rfl | rfl <;> rfl
      · cases h
mutual
theorem Tp.walk_right : ∀ (t : Tp) (s : Unit), Tp.walk Tp.fRight t s = ((), Tp.right t)
  | .mk k n ks, s => by
    rw [Tp.walk_mk, Tp.right]
    simp only [Tp.fRight, Tp.k, Tp.n, Tp.ks]
    by_cases h : Tp.own k n ks.length = true
    · rw [h, Tp.own_into h]; simpa using Tp.walkL_right ks ()
    · rw [Bool.not_eq_true] at h
      rw [h]; rfl
theorem Tp.walkL_right : ∀ (l : List Tp) (s : Unit), Tp.walkL Tp.fRight l s = ((), Tp.rightL l)
  | [], s => by rw [Tp.walkL_nil, Tp.rightL]
  | x :: r, s => by
    rw [Tp.walkL_cons, Tp.rightL, Tp.walk_right x s, Tp.walkL_right r]
    cases Tp.right x <;> rfl
end

-- how many nodes
def Tp.fCount (s : Int) (t : Tp) : Int × Bool × Bool := (wrap64 (s + 1), true, decide (wrap64 (s + 1) ≤ 1000))
def Tp.upto (n : Int) : Int × Bool := if n ≤ 1000 then (n, true) else (1001, false)
theorem Tp.wrap_small {s : Int} (h0 : 0 ≤ s) (h : s ≤ 1000) : wrap64 (s + 1) = s + 1 := by unfold wrap64; omega
mutual
theorem Tp.walk_count : ∀ (t : Tp) (s : Int), 0 ≤ s → s ≤ 1000 → Tp.walk Tp.fCount t s = Tp.upto (s + t.cnt)
  | .mk k n ks, s, h0, h => by
    rw [Tp.walk_mk, Tp.cnt]
    simp only [Tp.fCount, Tp.wrap_small h0 h]
    by_cases h1 : s + 1 ≤ 1000
    · rw [decide_eq_true h1]
      simp only [Bool.and_self, cond_true]
      rw [Tp.walkL_count ks (s + 1) (by omega) h1]
      congr 1; omega
    · rw [decide_eq_false h1]
      unfold Tp.upto
      rw [if_neg (by omega)]
      simp
      omega
theorem Tp.walkL_count : ∀ (l : List Tp) (s : Int), 0 ≤ s → s ≤ 1000 → Tp.walkL Tp.fCount l s = Tp.upto (s + Tp.cntL l)
  | [], s, h0, h => by rw [Tp.walkL_nil, Tp.cntL]; unfold Tp.upto; rw [if_pos (by omega)]; simp
  | x :: r, s, h0, h => by
    rw [Tp.walkL_cons, Tp.cntL, Tp.walk_count x s h0 h]
    by_cases h1 : s + x.cnt ≤ 1000
    · have e : Tp.upto (s + x.cnt) = (s + x.cnt, true) := by unfold Tp.upto; rw [if_pos h1]
      rw [e]
      simp only [cond_true]
      rw [Tp.walkL_count r _ (by omega) h1]
      congr 1; omega
    · have e : Tp.upto (s + x.cnt) = (1001, false) := by unfold Tp.upto; rw [if_neg h1]
      rw [e]
      unfold Tp.upto
      rw [if_neg (by omega)]
      rfl
end

-- what stands in it
def Tp.ins (l : List Int) (n : Int) : List Int := if n ∈ l then l else l ++ [n]
def Tp.fTake (kind : Int) (s : List Int) (t : Tp) : List Int × Bool × Bool := (if t.k = kind then Tp.ins s t.n else s, true, true)
mutual
def Tp.found (kind : Int) : Tp → List Int → List Int
  | .mk k n ks => fun l => Tp.foundL kind ks (if k = kind then Tp.ins l n else l)
def Tp.foundL (kind : Int) : List Tp → List Int → List Int
  | [] => fun l => l
  | x :: r => fun l => Tp.foundL kind r (Tp.found kind x l)
end
theorem Tp.found_mk (kind k n : Int) (ks : List Tp) (l : List Int) : Tp.found kind (.mk k n ks) l = Tp.foundL kind ks (if k = kind then Tp.ins l n else l) := by rw [Tp.found]
theorem Tp.foundL_nil (kind : Int) (l : List Int) : Tp.foundL kind [] l = l := by rw [Tp.foundL]
theorem Tp.foundL_cons (kind : Int) (x : Tp) (r : List Tp) (l : List Int) : Tp.foundL kind (x :: r) l = Tp.foundL kind r (Tp.found kind x l) := by rw [Tp.foundL]
mutual
theorem Tp.walk_take (kind : Int) : ∀ (t : Tp) (s : List Int), Tp.walk (Tp.fTake kind) t s = (Tp.found kind t s, true)
  | .mk k n ks, s => by
    rw [Tp.walk_mk, Tp.found_mk]
    simp only [Tp.fTake, Tp.k, Tp.n, Bool.and_self, cond_true]
    exact Tp.walkL_take kind ks _
theorem Tp.walkL_take (kind : Int) : ∀ (l : List Tp) (s : List Int), Tp.walkL (Tp.fTake kind) l s = (Tp.foundL kind l s, true)
  | [], s => by rw [Tp.walkL_nil, Tp.foundL_nil]
  | x :: r, s => by
    rw [Tp.walkL_cons, Tp.foundL_cons, Tp.walk_take kind x s]
    simp only [cond_true]
    exact Tp.walkL_take kind r _
end
/-- Is there no node of these kinds? -/
def Tp.fSpare (b : List Int) (s : Unit) (t : Tp) : Unit × Bool × Bool := ((), true, !decide (t.k ∈ b))
mutual
def Tp.spares (b : List Int) : Tp → Bool
  | .mk k n ks => !decide (k ∈ b) && Tp.sparesL b ks
def Tp.sparesL (b : List Int) : List Tp → Bool
  | [] => true
  | x :: r => Tp.spares b x && Tp.sparesL b r
end
mutual
theorem Tp.walk_spare (b : List Int) : ∀ (t : Tp) (s : Unit), Tp.walk (Tp.fSpare b) t s = ((), Tp.spares b t)
  | .mk k n ks, s => by
    rw [Tp.walk_mk, Tp.spares]
    simp only [Tp.fSpare, Tp.k, Bool.and_true]
    by_cases h : k ∈ b
    · simp [h]
    · simpa [h] using Tp.walkL_spare b ks ()
theorem Tp.walkL_spare (b : List Int) : ∀ (l : List Tp) (s : Unit), Tp.walkL (Tp.fSpare b) l s = ((), Tp.sparesL b l)
  | [], s => by rw [Tp.walkL_nil, Tp.sparesL]
  | x :: r, s => by
    rw [Tp.walkL_cons, Tp.sparesL, Tp.walk_spare b x s, Tp.walkL_spare b r]
    cases Tp.spares b x <;> rfl
end

-- replacing
def Tp.idx (n : Int) : List Int → Nat → Int
  | [], _ => -1
  | x :: r, i => if x = n then i else Tp.idx n r (i + 1)
def Tp.by (kind : Int) (fr : List Int) (to : List Tp) (k n : Int) : Option Tp :=
  if k = kind then (if 0 ≤ Tp.idx n fr 0 then to[(Tp.idx n fr 0).toNat]? else none) else none
def Tp.fMeasure (kind : Int) (fr : List Int) (to : List Tp) (s : Int) (t : Tp) : Int × Bool × Bool :=
  match Tp.by kind fr to t.k t.n with
  | some u => ((Tp.walk Tp.fCount u s).1, false, (Tp.walk Tp.fCount u s).2)
  | none => Tp.fCount s t
mutual
def Tp.put (kind : Int) (fr : List Int) (to : List Tp) : Tp → Tp
  | .mk k n ks => match Tp.by kind fr to k n with
    | some u => u
    | none => .mk k n (Tp.putL kind fr to ks)
def Tp.putL (kind : Int) (fr : List Int) (to : List Tp) : List Tp → List Tp
  | [] => []
  | x :: r => Tp.put kind fr to x :: Tp.putL kind fr to r
end
mutual
theorem Tp.walk_measure (kind : Int) (fr : List Int) (to : List Tp) : ∀ (t : Tp) (s : Int), 0 ≤ s → s ≤ 1000 → Tp.walk (Tp.fMeasure kind fr to) t s = Tp.upto (s + (Tp.put kind fr to t).cnt)
  | .mk k n ks, s, h0, h => by
    rw [Tp.walk_mk, Tp.put]
    simp only [Tp.fMeasure, Tp.k, Tp.n]
    cases hb : Tp.by kind fr to k n with
    | some u => simp [Tp.walk_count u s h0 h]
    | none =>
      simp only [Tp.fCount, Tp.cnt, Tp.wrap_small h0 h]
      by_cases h1 : s + 1 ≤ 1000
      · rw [decide_eq_true h1]
        simp only [Bool.and_self, cond_true]
        rw [Tp.walkL_measure kind fr to ks (s + 1) (by omega) h1]
        congr 1; omega
      · rw [decide_eq_false h1]
        unfold Tp.upto
        rw [if_neg (by omega)]
        simp
        omega
theorem Tp.walkL_measure (kind : Int) (fr : List Int) (to : List Tp) : ∀ (l : List Tp) (s : Int), 0 ≤ s → s ≤ 1000 → Tp.walkL (Tp.fMeasure kind fr to) l s = Tp.upto (s + Tp.cntL (Tp.putL kind fr to l))
  | [], s, h0, h => by rw [Tp.walkL_nil, Tp.putL, Tp.cntL]; unfold Tp.upto; rw [if_pos (by omega)]; simp
  | x :: r, s, h0, h => by
    rw [Tp.walkL_cons, Tp.putL, Tp.cntL, Tp.walk_measure kind fr to x s h0 h]
    by_cases h1 : s + (Tp.put kind fr to x).cnt ≤ 1000
    · have e : Tp.upto (s + (Tp.put kind fr to x).cnt) = (s + (Tp.put kind fr to x).cnt, true) := by unfold Tp.upto; rw [if_pos h1]
      rw [e]
      simp only [cond_true]
      rw [Tp.walkL_measure kind fr to r _ (by omega) h1]
      congr 1; omega
    · have e : Tp.upto (s + (Tp.put kind fr to x).cnt) = (1001, false) := by unfold Tp.upto; rw [if_neg h1]
      rw [e]
      unfold Tp.upto
      rw [if_neg (by omega)]
      rfl
end

-- the order
def Tp.num (a b : Int) : Int := if a < b then -1 else if b < a then 1 else 0
def Tp.or (a b : Int) : Int := if a = 0 then b else a
mutual
def Tp.cmp : Tp → Tp → Int
  | .mk k n ks, .mk k' n' ks' => Tp.or (Tp.num k k') (Tp.or (Tp.num n n') (Tp.or (Tp.num ks.length ks'.length) (Tp.cmpL ks ks')))
def Tp.cmpL : List Tp → List Tp → Int
  | [], [] => 0
  | [], _ :: _ => -1
  | _ :: _, [] => 1
  | x :: r, y :: r' => Tp.or (Tp.cmp x y) (Tp.cmpL r r')
end
end Go.Proofs.YtjodgnkhociaaaaGreat

namespace Go.Proofs.YtjodgnkhociaaaaGreat
open Go.RowKit
set_option linter.unusedVariables false

/-- The cells from a place on hold these values. -/
def Cells (w : World) (b o : Nat) (vs : List Value) : Prop := ∀ (j : Nat) v, vs[j]? = some v → w.cell? ⟨b, o + j, none⟩ = some v
/-- An int's range. -/
def R64 (n : Int) : Prop := -9223372036854775808 ≤ n ∧ n ≤ 9223372036854775807
/-- A slice of types, in a block of K. -/
def TRow (w : World) (K : Nat → Prop) (R : List Value → Tp → Prop) (v : Value) (l : List Tp) : Prop :=
  (∃ b o c, v = .slice (some ⟨b, o, none⟩) l.length c ∧ K b ∧ l.length ≤ c ∧ l.length ≤ maxLen ∧ ∀ (i : Nat) x, l[i]? = some x → ∃ vs, Cells w b (o + i * 3) vs ∧ R vs x) ∨ (l = [] ∧ ∃ p c, v = .slice p 0 c)
/-- The values vs are the type t. -/
def TAt (w : World) (K : Nat → Prop) : Nat → List Value → Tp → Prop
  | 0, _, _ => False
  | n + 1, vs, t => ∃ v, vs = [.int .i64 t.k, .int .i64 t.n, v] ∧ R64 t.k ∧ R64 t.n ∧ TRow w K (TAt w K n) v t.ks
def TAtL (w : World) (K : Nat → Prop) (n : Nat) (v : Value) (l : List Tp) : Prop := TRow w K (TAt w K n) v l
def Keeps (K : Nat → Prop) (w w' : World) : Prop := ∀ (b o : Nat) v, K b → w.cell? ⟨b, o, none⟩ = some v → w'.cell? ⟨b, o, none⟩ = some v
theorem Keeps.refl (K : Nat → Prop) (w : World) : Keeps K w w := fun _ _ _ _ h => h
theorem Keeps.trans {K : Nat → Prop} {a b c : World} (h : Keeps K a b) (h' : Keeps K b c) : Keeps K a c := fun x o v hk hv => h' x o v hk (h x o v hk hv)
theorem Keeps.of_below {K : Nat → Prop} {w w' : World} (h : Below w.heap.size w w') : Keeps K w w' := fun b o v _ hv => (h.cell (World.block_lt_of_cell? w _ hv)).trans hv
theorem TRow.move {w w' : World} {K K' : Nat → Prop} {R R' : List Value → Tp → Prop} {v : Value} {l : List Tp} (h : TRow w K R v l) (hk : Keeps K w w') (hK : ∀ b, K b → K' b) (hR : ∀ vs x, R vs x → R' vs x) : TRow w' K' R' v l := by
  rcases h with ⟨b, o, c, hv, hb, hl, hm, hc⟩ | h
  · refine .inl ⟨b, o, c, hv, hK b hb, hl, hm, fun i x hx => ?_⟩
    obtain ⟨vs, h1, h2⟩ := hc i x hx
    exact ⟨vs, fun j u hu => hk _ _ _ hb (h1 j u hu), hR _ _ h2⟩
  · exact .inr h
theorem TAt.move {w w' : World} {K K' : Nat → Prop} (hk : Keeps K w w') (hK : ∀ b, K b → K' b) : ∀ {n : Nat} {vs : List Value} {t : Tp}, TAt w K n vs t → TAt w' K' n vs t
  | 0, _, _, h => h
  | n + 1, vs, t, ⟨v, h1, h2, h3, h4⟩ => ⟨v, h1, h2, h3, h4.move hk hK fun _ _ q => TAt.move hk hK q⟩
theorem TAt.succ {w : World} {K : Nat → Prop} : ∀ {n : Nat} {vs : List Value} {t : Tp}, TAt w K n vs t → TAt w K (n + 1) vs t
  | 0, _, _, h => h.elim
  | n + 1, vs, t, ⟨v, h1, h2, h3, h4⟩ => ⟨v, h1, h2, h3, h4.move (Keeps.refl _ _) (fun _ h => h) fun _ _ q => TAt.succ q⟩
theorem TAt.le {w : World} {K : Nat → Prop} {n m : Nat} {vs : List Value} {t : Tp} (h : TAt w K n vs t) (hm : n ≤ m) : TAt w K m vs t := by
  induction m with
  | zero => obtain rfl : n = 0 := by omega
            exact h
  | succ m ih =>
    by_cases he : n = m + 1
    · subst he; exact h
    · exact (ih (by omega)).succ
theorem TAtL.move {w w' : World} {K K' : Nat → Prop} {n : Nat} {v : Value} {l : List Tp} (h : TAtL w K n v l) (hk : Keeps K w w') (hK : ∀ b, K b → K' b) : TAtL w' K' n v l := TRow.move h hk hK fun _ _ q => TAt.move hk hK q
theorem TAtL.le {w : World} {K : Nat → Prop} {n m : Nat} {v : Value} {l : List Tp} (h : TAtL w K n v l) (hm : n ≤ m) : TAtL w K m v l := TRow.move h (Keeps.refl _ _) (fun _ h => h) fun _ _ q => TAt.le q hm
theorem TAtL.form {w : World} {K : Nat → Prop} {n : Nat} {v : Value} {l : List Tp} (h : TAtL w K n v l) : ∃ a c, v = .slice a l.length c ∧ l.length ≤ maxLen := by
  rcases h with ⟨b, o, c, rfl, -, -, hm, -⟩ | ⟨rfl, p, c, rfl⟩
  · exact ⟨_, _, rfl, hm⟩
  · exact ⟨_, _, rfl, Nat.zero_le _⟩
theorem TAt.open_ {w : World} {K : Nat → Prop} {n : Nat} {vs : List Value} {t : Tp} (h : TAt w K (n + 1) vs t) : ∃ v, vs = [.int .i64 t.k, .int .i64 t.n, v] ∧ R64 t.k ∧ R64 t.n ∧ TAtL w K n v t.ks := h
theorem TAt.form {w : World} {K : Nat → Prop} {n : Nat} {vs : List Value} {t : Tp} (h : TAt w K n vs t) : ∃ a c, vs = [.int .i64 t.k, .int .i64 t.n, .slice a t.ks.length c] := by
  cases n with
  | zero => exact h.elim
  | succ n =>
    obtain ⟨v, rfl, -, -, h4⟩ := h
    obtain ⟨a, c, rfl, -⟩ := TAtL.form h4
    exact ⟨a, c, rfl⟩
abbrev Any : Nat → Prop := fun _ => True
theorem TAt.any {w : World} {K : Nat → Prop} {n : Nat} {vs : List Value} {t : Tp} (h : TAt w K n vs t) : TAt w Any n vs t := h.move (Keeps.refl _ _) fun _ _ => trivial
theorem TAtL.any {w : World} {K : Nat → Prop} {n : Nat} {v : Value} {l : List Tp} (h : TAtL w K n v l) : TAtL w Any n v l := h.move (Keeps.refl _ _) fun _ _ => trivial
theorem TAt.below {w w' : World} {K : Nat → Prop} {n : Nat} {vs : List Value} {t : Tp} (h : TAt w K n vs t) (hb : Below w.heap.size w w') : TAt w' K n vs t := h.move (Keeps.of_below hb) fun _ h => h
theorem TAtL.below {w w' : World} {K : Nat → Prop} {n : Nat} {v : Value} {l : List Tp} (h : TAtL w K n v l) (hb : Below w.heap.size w w') : TAtL w' K n v l := h.move (Keeps.of_below hb) fun _ h => h
theorem bl_alloc {w w1 : World} (h : Below w.heap.size w w1) (o : Obj) : Below w.heap.size w (w1.alloc o) := h.alloc h.size o
theorem bl_tr {w w1 w2 : World} (h : Below w.heap.size w w1) (h2 : Below w1.heap.size w1 w2) : Below w.heap.size w w2 := h.trans (h2.mono h.size)
theorem bl_drewN (w : World) (n : Nat) : Below w.heap.size w (w.drewN n) := by
  induction n with
  | zero => exact Below.refl _ _
  | succ k ih => exact ih.drew
theorem heap_alloc_at (w : World) (o : Obj) : (w.alloc o).heap[w.heap.size]? = some o := by
  show (w.heap.push o)[w.heap.size]? = some o
  rw [Array.getElem?_push_size]
theorem cell_at {w : World} {b : Nat} {cs : Array Value} {T : TypeId} {z : Nat × Nat} (h : w.heap[b]? = some (.cells cs T z)) (j : Nat) : w.cell? ⟨b, j, none⟩ = cs[j]? := by simp [World.cell?, h]
theorem size_alloc (w : World) (o : Obj) : (w.alloc o).heap.size = w.heap.size + 1 := by simp
/-- The i-th element of a slice of types: where it lies. -/
theorem TAtL.elem {w : World} {K : Nat → Prop} {n : Nat} {b o c m : Nat} {l : List Tp} (h : TAtL w K n (.slice (some ⟨b, o, none⟩) m c) l) {i : Nat} {x : Tp} (hx : l[i]? = some x) : ∃ v, TAt w K n [.int .i64 x.k, .int .i64 x.n, v] x ∧ w.cell? ⟨b, o + i * 3, none⟩ = some (.int .i64 x.k) ∧ w.cell? ⟨b, o + i * 3 + 1, none⟩ = some (.int .i64 x.n) ∧ w.cell? ⟨b, o + i * 3 + 2, none⟩ = some v ∧ K b ∧ b < w.heap.size := by
  rcases h with ⟨b', o', c', hv, hb, hl, hm, hc⟩ | ⟨rfl, -⟩
  · obtain ⟨rfl, rfl⟩ : b = b' ∧ o = o' := by injection hv with e1 e2 e3; injection e1 with e1; injection e1 with e1 e2; exact ⟨e1, e2⟩
    obtain ⟨vs, h1, h2⟩ := hc i x hx
    obtain ⟨a, c2, e⟩ := h2.form
    subst e
    exact ⟨_, h2, h1 0 _ rfl, h1 1 _ rfl, h1 2 _ rfl, hb, World.block_lt_of_cell? w _ (h1 0 _ rfl)⟩
  · simp at hx

/-- What a step leaves alone: every block but those of own; new ones may be its own. -/
structure Ev (own : Nat → Prop) (w : World) (own' : Nat → Prop) (w' : World) : Prop where
  os : w'.os = w.os
  tape : w'.tape = w.tape
  output : w'.output = w.output
  size : w.heap.size ≤ w'.heap.size
  mine : ∀ b, own' b → own b ∨ w.heap.size ≤ b
  block : ∀ b, b < w.heap.size → ¬ own b → w'.heap[b]? = w.heap[b]?
theorem Ev.refl (own : Nat → Prop) (w : World) : Ev own w own w := ⟨rfl, rfl, rfl, Nat.le_refl _, fun _ h => .inl h, fun _ _ _ => rfl⟩
theorem Ev.trans {o0 o1 o2 : Nat → Prop} {a b c : World} (h : Ev o0 a o1 b) (k : Ev o1 b o2 c) : Ev o0 a o2 c :=
  ⟨k.os.trans h.os, k.tape.trans h.tape, k.output.trans h.output, Nat.le_trans h.size k.size,
   fun x hx => (k.mine x hx).elim (h.mine x) (fun h2 => .inr (Nat.le_trans h.size h2)),
   fun x hx hn => (k.block x (Nat.lt_of_lt_of_le hx h.size) (fun h1 => (h.mine x h1).elim hn (fun h2 => by omega))).trans (h.block x hx hn)⟩
theorem Ev.of_below {own : Nat → Prop} {w w' : World} (h : Below w.heap.size w w') : Ev own w own w' := ⟨h.os, h.tape, h.output, h.size, fun _ h => .inl h, fun x hx _ => h.block x hx⟩
theorem Ev.alloc {own o1 : Nat → Prop} {w w1 : World} (h : Ev own w o1 w1) (o : Obj) : Ev own w o1 (w1.alloc o) := h.trans (Ev.of_below (bl_alloc (Below.refl _ _) o))
theorem Ev.drew {own o1 : Nat → Prop} {w w1 : World} (h : Ev own w o1 w1) : Ev own w o1 w1.drew := h.trans (Ev.of_below (Below.refl _ _).drew)
theorem Ev.below {own : Nat → Prop} {w w' : World} {own' : Nat → Prop} {B : Nat} (h : Ev own w own' w') (hB : B ≤ w.heap.size) (ho : ∀ b, own b → B ≤ b) : Below B w w' :=
  ⟨h.os, h.tape, h.output, h.size, fun k hk => h.block k (by omega) (fun hq => by have := ho k hq; omega)⟩
theorem Ev.cell {own : Nat → Prop} {w w' : World} {own' : Nat → Prop} (h : Ev own w own' w') {p : Addr} (hp : p.block < w.heap.size) (hn : ¬ own p.block) : w'.cell? p = w.cell? p := World.cell?_of_block (w := w) (h.block p.block hp hn)
/-- The blocks that w has and that are not in own. -/
def Free (own : Nat → Prop) (w : World) : Nat → Prop := fun b => b < w.heap.size ∧ ¬ own b
theorem Ev.keeps {own : Nat → Prop} {w w' : World} {own' : Nat → Prop} (h : Ev own w own' w') : Keeps (Free own w) w w' := fun b o v hb hv => (h.cell (p := ⟨b, o, none⟩) hb.1 hb.2).trans hv
theorem TAt.old {w : World} {K : Nat → Prop} : ∀ {n : Nat} {vs : List Value} {t : Tp}, TAt w K n vs t → TAt w (fun b => b < w.heap.size) n vs t
  | 0, _, _, h => h
  | n + 1, vs, t, ⟨v, h1, h2, h3, h4⟩ => by
    refine ⟨v, h1, h2, h3, ?_⟩
    rcases h4 with ⟨b, o, c, hv, hb, hl, hm, hc⟩ | h4
    · cases hks : t.ks with
      | nil => exact .inr ⟨rfl, _, _, by rw [hv, hks]; rfl⟩
      | cons x r =>
        rw [hks] at hv hl hm hc
        refine .inl ⟨b, o, c, hv, ?_, hl, hm, fun i y hy => ?_⟩
        · obtain ⟨vs', g1, g2⟩ := hc 0 x rfl
          obtain ⟨a, c2, rfl⟩ := g2.form
          exact World.block_lt_of_cell? w _ (g1 0 _ rfl)
        · obtain ⟨vs', g1, g2⟩ := hc i y hy
          exact ⟨vs', g1, TAt.old g2⟩
    · exact .inr h4
theorem TAt.oldK {w : World} {own : Nat → Prop} : ∀ {n : Nat} {vs : List Value} {t : Tp}, TAt w (fun b => ¬ own b) n vs t → TAt w (Free own w) n vs t
  | 0, _, _, h => h
  | n + 1, vs, t, ⟨v, h1, h2, h3, h4⟩ => by
    refine ⟨v, h1, h2, h3, ?_⟩
    rcases h4 with ⟨b, o, c, hv, hb, hl, hm, hc⟩ | h4
    · cases hks : t.ks with
      | nil => exact .inr ⟨rfl, _, _, by rw [hv, hks]; rfl⟩
      | cons x r =>
        rw [hks] at hv hl hm hc
        refine .inl ⟨b, o, c, hv, ⟨?_, hb⟩, hl, hm, fun i y hy => ?_⟩
        · obtain ⟨vs', g1, g2⟩ := hc 0 x rfl
          obtain ⟨a, c2, rfl⟩ := g2.form
          exact World.block_lt_of_cell? w _ (g1 0 _ rfl)
        · obtain ⟨vs', g1, g2⟩ := hc i y hy
          exact ⟨vs', g1, TAt.oldK g2⟩
    · exact .inr h4
end Go.Proofs.YtjodgnkhociaaaaGreat

namespace Go.Proofs.YtjodgnkhociaaaaGreat
open Go.RowKit
set_option linter.unusedVariables false

def Enters (f : FuncId) : Prop := ∀ (args : Array Value) (w : World), (callFunc f args).run Tryz.prog w = .ok (.enter f args) w
theorem enters_of {f : FuncId} {fn : Func} {c : Code} (hf : Tryz.prog.funcs[f]? = some fn) (hname : (fn.name == "runtime.NumGoroutine") = false) (hb : fn.body = some c) : Enters f := by
  intro args w
  have h1 : ¬ fn.name = "runtime.NumGoroutine" := fun e => by rw [e] at hname; simp at hname
  simp [callFunc, hf, h1, hb]
theorem ret_bool {a b : Bool} (h : a = b) : Ending.returned (.bool a) = .returned (.bool b) := by rw [h]
theorem ret_int {a b : Int} (h : a = b) : Ending.returned (.int .i64 a) = .returned (.int .i64 b) := by rw [h]
/-- What is kept in memory stays while nothing that was there turns, and lies there. -/
structure Steady {S : Type} (I : S → (Nat → Prop) → World → Prop) : Prop where
  stays : ∀ s own w w', I s own w → Below w.heap.size w w' → I s own w'
  lt : ∀ s own w b, I s own w → own b → b < w.heap.size
def SeeOf {S : Type} (g : FuncId) (fs : Array Value) (f : S → Tp → S × Bool × Bool) (I : S → (Nat → Prop) → World → Prop) (o0 : Nat → Prop) (w0 : World) (n : Nat) : Prop :=
  ∀ (w : World) (own : Nat → Prop) (s : S) (vs : List Value) (t : Tp), I s own w → Ev o0 w0 own w → TAt w0 (Free o0 w0) n vs t →
    Calls Tryz.prog g (fs ++ #[.agg vs.toArray]) w fun e w' => e = .returned (.tuple #[.bool (f s t).2.1, .bool (f s t).2.2]) ∧ ∃ own', I (f s t).1 own' w' ∧ Ev own w own' w'
def WalkOf {S : Type} (g : FuncId) (fs : Array Value) (f : S → Tp → S × Bool × Bool) (I : S → (Nat → Prop) → World → Prop) (o0 : Nat → Prop) (w0 : World) (n : Nat) : Prop :=
  ∀ (w : World) (own : Nat → Prop) (s : S) (vs : List Value) (t : Tp), I s own w → Ev o0 w0 own w → TAt w0 (Free o0 w0) n vs t →
    Calls Tryz.prog 172 #[.agg vs.toArray, .func (.func g) fs #[]] w fun e w' => e = .returned (.bool (Tp.walk f t s).2) ∧ ∃ own', I (Tp.walk f t s).1 own' w' ∧ Ev own w own' w'

theorem Tp.walkL_at {S : Type} {f : S → Tp → S × Bool × Bool} {xs : List Tp} {k : Nat} {x : Tp} (hx : xs[k]? = some x) (s : S) : Tp.walkL f (xs.drop k) s = bif (Tp.walk f x s).2 then Tp.walkL f (xs.drop (k + 1)) (Tp.walk f x s).1 else ((Tp.walk f x s).1, false) := by
  obtain ⟨h1, e1⟩ := List.getElem?_eq_some_iff.1 hx
  rw [List.drop_eq_getElem_cons h1, e1, Tp.walkL_cons]

set_option maxHeartbeats 2000000 in
set_option maxRecDepth 100000 in
theorem walk_step {S : Type} (g : FuncId) (fs : Array Value) (f : S → Tp → S × Bool × Bool) (I : S → (Nat → Prop) → World → Prop) (o0 : Nat → Prop) (w0 : World) (n : Nat) (st : Steady I) (en : Enters g) (see : SeeOf g fs f I o0 w0 (n + 1)) (ih : WalkOf g fs f I o0 w0 n) : WalkOf g fs f I o0 w0 (n + 1) := by
  intro w own s vs t hI hE hT
  unfold Enters at en
  obtain ⟨v, rfl, hk, hn, hL⟩ := hT.open_
  have hwalk : Hid (Tp.walk f t s = bif (f s t).2.2 && (f s t).2.1 then Tp.walkL f t.ks (f s t).1 else ((f s t).1, (f s t).2.2)) := by
    obtain ⟨k, m, ks⟩ := t
    exact Tp.walk_mk f k m ks s
  have HS : Hid (∀ o, Calls Tryz.prog g (fs ++ #[.agg #[.int .i64 t.k, .int .i64 t.n, v]]) (w.alloc o) fun e w' => e = .returned (.tuple #[.bool (f s t).2.1, .bool (f s t).2.2]) ∧ ∃ own', I (f s t).1 own' w' ∧ Ev own (w.alloc o) own' w') :=
    fun o => see (w.alloc o) own s _ t (st.stays _ _ _ _ hI (bl_alloc (Below.refl _ _) o)) (hE.alloc o) hT
  have hown : Hid (¬ own w.heap.size) := fun h => by have := st.lt _ _ _ _ hI h; omega
  have HE : Hid (Ev o0 w0 own w) := hE
  clear see hT hI hE hk hn
  generalize hq : f s t = q at HS hwalk
  obtain ⟨s1, into, on⟩ := q
  clear hq
  simp only at HS hwalk
  obtain ⟨a1, c1, e1, hx⟩ := TAtL.form hL
  subst e1
  unfold maxLen at hx
  have go : ∀ (b : Bool) (w' : World) (own' : Nat → Prop) (s' : S), Tp.walk f t s = (s', b) → I s' own' w' → Ev own w own' w' → (Ending.returned (.bool b) = .returned (.bool (Tp.walk f t s).2) ∧ ∃ own', I (Tp.walk f t s).1 own' w' ∧ Ev own w own' w') := by
    intro b w' own' s' e h1 h2
    rw [e]
    exact ⟨rfl, _, h1, h2⟩
  have GO : Hid _ := go
  clear go
  cases on with
  | false =>
    simp only [Bool.false_and, cond_false] at hwalk
    go_enter Tryz.func172, Tryz.ntmps172
    go_wp2_with (refine (HS.out _).mono ?_; rintro e w2 ⟨rfl, own2, hI2, hE2⟩)
    go_ret
    exact GO.out _ _ _ _ hwalk.out hI2 (((Ev.refl _ _).alloc _).trans hE2)
  | true =>
    cases into with
    | false =>
      simp only [Bool.and_false, cond_false] at hwalk
      go_enter Tryz.func172, Tryz.ntmps172
      go_wp2_with (refine (HS.out _).mono ?_; rintro e w2 ⟨rfl, own2, hI2, hE2⟩)
      go_ret
      exact GO.out _ _ _ _ hwalk.out hI2 (((Ev.refl _ _).alloc _).trans hE2)
    | true =>
      simp only [Bool.and_self, cond_true] at hwalk
      go_enter Tryz.func172, Tryz.ntmps172
      go_wp2_with (refine (HS.out _).mono ?_; rintro e w2 ⟨rfl, own2, hI2, hE2⟩; have hc2 := (hE2.cell (p := ⟨w.heap.size, 2, none⟩) (show w.heap.size < _ by simp) hown.out).trans (show _ = some (.slice a1 t.ks.length c1) by simp [go_sem]))
      have hE3 : Ev own w own2 w2 := ((Ev.refl _ _).alloc _).trans hE2
      clear hE2 hc2 HS
      go_loopw [25] (fun v wr => ∃ (k : Nat) (s' : S) (own' : Nat → Prop), v = .int .i64 k ∧ k ≤ t.ks.length ∧ Hid (Tp.walk f t s = Tp.walkL f (t.ks.drop k) s') ∧ I s' own' wr ∧ Ev own w own' wr) (fun v _ => t.ks.length - (intOf v).toNat)
      case atStart => exact ⟨0, s1, own2, rfl, Nat.zero_le _, hwalk, hI2, hE3⟩
      case round =>
        obtain ⟨k, s', own', rfl, hkl, hH, hI', hE'⟩ := hrel
        clear hI2 hE3 hwalk
        by_cases hlt : k < t.ks.length
        · obtain ⟨b, o, rfl⟩ : ∃ b o, a1 = some ⟨b, o, none⟩ := by
            rcases hL with ⟨b, o, c, hv, -⟩ | ⟨h0, -⟩
            · injection hv with e1 e2 e3; exact ⟨b, o, e1⟩
            · rw [h0] at hlt; exact absurd hlt (Nat.not_lt_zero _)
          obtain ⟨x, hxk⟩ : ∃ x, t.ks[k]? = some x := ⟨_, List.getElem?_eq_getElem hlt⟩
          obtain ⟨vx, tx, x0, x1, x2, hF, hb⟩ := hL.elem hxk
          have hEE : Ev o0 w0 own' wr := HE.out.trans hE'
          have y0 := hEE.keeps _ _ _ hF x0
          have y1 := hEE.keeps _ _ _ hF x1
          have y2 := hEE.keeps _ _ _ hF x2
          have HQ : Hid (∀ oo, Calls Tryz.prog 172 #[.agg #[.int .i64 x.k, .int .i64 x.n, vx], .func (.func g) fs #[]] (wr.alloc oo) fun e w' => e = .returned (.bool (Tp.walk f x s').2) ∧ ∃ own'', I (Tp.walk f x s').1 own'' w' ∧ Ev own' (wr.alloc oo) own'' w') :=
            fun oo => ih (wr.alloc oo) own' s' _ x (st.stays _ _ _ _ hI' (bl_alloc (Below.refl _ _) oo)) (hEE.alloc oo) tx
          have HX : Hid (Tp.walk f t s = bif (Tp.walk f x s').2 then Tp.walkL f (t.ks.drop (k + 1)) (Tp.walk f x s').1 else ((Tp.walk f x s').1, false)) := hH.out.trans (Tp.walkL_at hxk s')
          obtain ⟨ax, cx, ex⟩ := tx.form
          simp only [List.cons.injEq, and_true, true_and] at ex
          subst ex
          clear hL ih hH hI' hEE hxk tx x0 x1 x2 hF hb
          generalize Tp.walk f x s' = q at HQ HX
          obtain ⟨s2, on⟩ := q
          simp only at HQ HX
          cases on with
          | true =>
            simp only [cond_true] at HX
            go_wp2_with (go_at_call 172; refine (HQ.out _).mono ?_; rintro e w3 ⟨rfl, own3, hI3, hE3⟩)
            go_roundw
            case rel => exact ⟨k + 1, s2, own3, by go_num, by omega, HX, hI3, (hE'.alloc _).trans hE3⟩
            case measure => simp [intOf]; omega
          | false =>
            simp only [cond_false] at HX
            go_wp2_with (go_at_call 172; refine (HQ.out _).mono ?_; rintro e w3 ⟨rfl, own3, hI3, hE3⟩)
            go_ret
            exact GO.out _ _ _ _ HX.out hI3 ((hE'.alloc _).trans hE3)
        · have HX : Hid (Tp.walk f t s = (s', true)) := by
            show _ = _
            rw [hH.out, List.drop_eq_nil_of_le (by omega)]; exact Tp.walkL_nil f s'
          clear hH ih hL
          go_wp2
          go_ret
          exact GO.out _ _ _ _ HX.out hI' hE'

theorem walk_any {S : Type} (g : FuncId) (fs : Array Value) (f : S → Tp → S × Bool × Bool) (I : S → (Nat → Prop) → World → Prop) (o0 : Nat → Prop) (w0 : World) (st : Steady I) (en : Enters g) (see : ∀ n, SeeOf g fs f I o0 w0 n) : ∀ n, WalkOf g fs f I o0 w0 n
  | 0 => fun w own s vs t _ _ hT => hT.elim
  | n + 1 => walk_step g fs f I o0 w0 n st en (see (n + 1)) (walk_any g fs f I o0 w0 st en see n)
end Go.Proofs.YtjodgnkhociaaaaGreat

namespace Go.Proofs.YtjodgnkhociaaaaGreat
open Go.RowKit
set_option linter.unusedVariables false
set_option linter.unusedSimpArgs false

def IRight (W : World) (s : Unit) (own : Nat → Prop) (w : World) : Prop := (∀ b, ¬ own b) ∧ Below W.heap.size W w
theorem IRight.steady (W : World) : Steady (IRight W) := ⟨fun s own w w' h hb => ⟨h.1, bl_tr h.2 hb⟩, fun s own w b h ho => absurd ho (h.1 b)⟩
end Go.Proofs.YtjodgnkhociaaaaGreat
