/- Types as plain data: what the document and the program say of them, as plain functions. -/
import Derived.WalkKit
namespace Go.Proofs.Ytknlpeloaapaiaa
open Go.RowKit
set_option linter.unusedVariables false

/-- A type: its kind, its number, its parts. -/
inductive Tp where
  | mk (k n : Int) (ks : List Tp)
def Tp.k : Tp → Int | .mk k _ _ => k
def Tp.n : Tp → Int | .mk _ n _ => n
def Tp.ks : Tp → List Tp | .mk _ _ ks => ks
mutual
def Tp.cnt : Tp → Nat
  | .mk _ _ ks => Tp.cntL ks + 1
def Tp.cntL : List Tp → Nat
  | [] => 0
  | x :: r => Tp.cnt x + Tp.cntL r
end
mutual
/-- Going through the nodes: f tells the state behind a node, whether to go into it, whether to go on. -/
def Tp.walk {S : Type} (f : S → Tp → S × Bool × Bool) : Tp → S → S × Bool
  | .mk k n ks => fun s => bif (f s (.mk k n ks)).2.2 && (f s (.mk k n ks)).2.1 then Tp.walkL f ks (f s (.mk k n ks)).1 else ((f s (.mk k n ks)).1, (f s (.mk k n ks)).2.2)
def Tp.walkL {S : Type} (f : S → Tp → S × Bool × Bool) : List Tp → S → S × Bool
  | [] => fun s => (s, true)
  | x :: r => fun s => bif (Tp.walk f x s).2 then Tp.walkL f r (Tp.walk f x s).1 else ((Tp.walk f x s).1, false)
end

theorem Tp.walk_mk {S : Type} (f : S → Tp → S × Bool × Bool) (k n : Int) (ks : List Tp) (s : S) : Tp.walk f (.mk k n ks) s = bif (f s (.mk k n ks)).2.2 && (f s (.mk k n ks)).2.1 then Tp.walkL f ks (f s (.mk k n ks)).1 else ((f s (.mk k n ks)).1, (f s (.mk k n ks)).2.2) := by rw [Tp.walk]
theorem Tp.walkL_nil {S : Type} (f : S → Tp → S × Bool × Bool) (s : S) : Tp.walkL f [] s = (s, true) := by rw [Tp.walkL]
theorem Tp.walkL_cons {S : Type} (f : S → Tp → S × Bool × Bool) (x : Tp) (r : List Tp) (s : S) : Tp.walkL f (x :: r) s = bif (Tp.walk f x s).2 then Tp.walkL f r (Tp.walk f x s).1 else ((Tp.walk f x s).1, false) := by rw [Tp.walkL]

-- which are right
def Tp.into (k : Int) : Bool := decide (1 ≤ k) && decide (k ≤ 8)
def Tp.own (k n : Int) (l : Nat) : Bool :=
  if k = 1 ∨ k = 2 ∨ k = 3 then decide (n = 0) && decide (l = 0)
  else if k = 4 ∨ k = 5 then decide (n = 0) && decide (l = 2)
  else if k = 6 ∨ k = 7 ∨ k = 8 then decide (0 ≤ n) && decide (l = 0)
  else false
def Tp.fRight (s : Unit) (t : Tp) : Unit × Bool × Bool := ((), Tp.into t.k, Tp.own t.k t.n t.ks.length)
mutual
def Tp.right : Tp → Bool
  | .mk k n ks => Tp.own k n ks.length && Tp.rightL ks
def Tp.rightL : List Tp → Bool
  | [] => true
  | x :: r => Tp.right x && Tp.rightL r
end
theorem Tp.own_into {k n : Int} {l : Nat} (h : Tp.own k n l = true) : Tp.into k = true := by
  unfold Tp.own at h
  unfold Tp.into
  split at h
  · rcases ‹k = 1 ∨ k = 2 ∨ k = 3› with rfl | rfl | rfl <;> rfl
  · split at h
    · rcases ‹k = 4 ∨ k = 5› with rfl | rfl <;> rfl
    · split at h
      · rcases ‹k = 6 ∨ k = 7 ∨ k = 8› with rfl | rfl | rfl <;> rfl
      · cases h
mutual
theorem Tp.walk_right : ∀ (t : Tp) (s : Unit), Tp.walk Tp.fRight t s = ((), Tp.right t)
  | .mk k n ks, s => by
    rw [Tp.walk_mk, Tp.right]
    simp only [Tp.fRight, Tp.k, Tp.n, Tp.ks]
    by_cases h : Tp.own k n ks.length = true
    · rw [h, Tp.own_into h]; simpa using Tp.walkL_right ks ()
    · rw [Bool.not_eq_true] at h
      rw [h]; rfl
theorem Tp.walkL_right : ∀ (l : List Tp) (s : Unit), Tp.walkL Tp.fRight l s = ((), Tp.rightL l)
  | [], s => by rw [Tp.walkL_nil, Tp.rightL]
  | x :: r, s => by
    rw [Tp.walkL_cons, Tp.rightL, Tp.walk_right x s, Tp.walkL_right r]
    cases Tp.right x <;> rfl
end

-- how many nodes
def Tp.fCount (s : Int) (t : Tp) : Int × Bool × Bool := (wrap64 (s + 1), true, decide (wrap64 (s + 1) ≤ 1000))
def Tp.upto (n : Int) : Int × Bool := if n ≤ 1000 then (n, true) else (1001, false)
theorem Tp.wrap_small {s : Int} (h0 : 0 ≤ s) (h : s ≤ 1000) : wrap64 (s + 1) = s + 1 := by unfold wrap64; omega
mutual
theorem Tp.walk_count : ∀ (t : Tp) (s : Int), 0 ≤ s → s ≤ 1000 → Tp.walk Tp.fCount t s = Tp.upto (s + t.cnt)
  | .mk k n ks, s, h0, h => by
    rw [Tp.walk_mk, Tp.cnt]
    simp only [Tp.fCount, Tp.wrap_small h0 h]
    by_cases h1 : s + 1 ≤ 1000
    · rw [decide_eq_true h1]
      simp only [Bool.and_self, cond_true]
      rw [Tp.walkL_count ks (s + 1) (by omega) h1]
      congr 1; omega
    · rw [decide_eq_false h1]
      unfold Tp.upto
      rw [if_neg (by omega)]
      simp
      omega
theorem Tp.walkL_count : ∀ (l : List Tp) (s : Int), 0 ≤ s → s ≤ 1000 → Tp.walkL Tp.fCount l s = Tp.upto (s + Tp.cntL l)
  | [], s, h0, h => by rw [Tp.walkL_nil, Tp.cntL]; unfold Tp.upto; rw [if_pos (by omega)]; simp
  | x :: r, s, h0, h => by
    rw [Tp.walkL_cons, Tp.cntL, Tp.walk_count x s h0 h]
    by_cases h1 : s + x.cnt ≤ 1000
    · have e : Tp.upto (s + x.cnt) = (s + x.cnt, true) := by unfold Tp.upto; rw [if_pos h1]
      rw [e]
      simp only [cond_true]
      rw [Tp.walkL_count r _ (by omega) h1]
      congr 1; omega
    · have e : Tp.upto (s + x.cnt) = (1001, false) := by unfold Tp.upto; rw [if_neg h1]
      rw [e]
      unfold Tp.upto
      rw [if_neg (by omega)]
      rfl
end

-- what stands in it
def Tp.ins (l : List Int) (n : Int) : List Int := if n ∈ l then l else l ++ [n]
def Tp.fTake (kind : Int) (s : List Int) (t : Tp) : List Int × Bool × Bool := (if t.k = kind then Tp.ins s t.n else s, true, true)
mutual
def Tp.found (kind : Int) : Tp → List Int → List Int
  | .mk k n ks => fun l => Tp.foundL kind ks (if k = kind then Tp.ins l n else l)
def Tp.foundL (kind : Int) : List Tp → List Int → List Int
  | [] => fun l => l
  | x :: r => fun l => Tp.foundL kind r (Tp.found kind x l)
end
theorem Tp.found_mk (kind k n : Int) (ks : List Tp) (l : List Int) : Tp.found kind (.mk k n ks) l = Tp.foundL kind ks (if k = kind then Tp.ins l n else l) := by rw [Tp.found]
theorem Tp.foundL_nil (kind : Int) (l : List Int) : Tp.foundL kind [] l = l := by rw [Tp.foundL]
theorem Tp.foundL_cons (kind : Int) (x : Tp) (r : List Tp) (l : List Int) : Tp.foundL kind (x :: r) l = Tp.foundL kind r (Tp.found kind x l) := by rw [Tp.foundL]
mutual
theorem Tp.walk_take (kind : Int) : ∀ (t : Tp) (s : List Int), Tp.walk (Tp.fTake kind) t s = (Tp.found kind t s, true)
  | .mk k n ks, s => by
    rw [Tp.walk_mk, Tp.found_mk]
    simp only [Tp.fTake, Tp.k, Tp.n, Bool.and_self, cond_true]
    exact Tp.walkL_take kind ks _
theorem Tp.walkL_take (kind : Int) : ∀ (l : List Tp) (s : List Int), Tp.walkL (Tp.fTake kind) l s = (Tp.foundL kind l s, true)
  | [], s => by rw [Tp.walkL_nil, Tp.foundL_nil]
  | x :: r, s => by
    rw [Tp.walkL_cons, Tp.foundL_cons, Tp.walk_take kind x s]
    simp only [cond_true]
    exact Tp.walkL_take kind r _
end
/-- Is there no node of these kinds? -/
def Tp.fSpare (b : List Int) (s : Unit) (t : Tp) : Unit × Bool × Bool := ((), true, !decide (t.k ∈ b))
mutual
def Tp.spares (b : List Int) : Tp → Bool
  | .mk k n ks => !decide (k ∈ b) && Tp.sparesL b ks
def Tp.sparesL (b : List Int) : List Tp → Bool
  | [] => true
  | x :: r => Tp.spares b x && Tp.sparesL b r
end
mutual
theorem Tp.walk_spare (b : List Int) : ∀ (t : Tp) (s : Unit), Tp.walk (Tp.fSpare b) t s = ((), Tp.spares b t)
  | .mk k n ks, s => by
    rw [Tp.walk_mk, Tp.spares]
    simp only [Tp.fSpare, Tp.k, Bool.and_true]
    by_cases h : k ∈ b
    · simp [h]
    · simpa [h] using Tp.walkL_spare b ks ()
theorem Tp.walkL_spare (b : List Int) : ∀ (l : List Tp) (s : Unit), Tp.walkL (Tp.fSpare b) l s = ((), Tp.sparesL b l)
  | [], s => by rw [Tp.walkL_nil, Tp.sparesL]
  | x :: r, s => by
    rw [Tp.walkL_cons, Tp.sparesL, Tp.walk_spare b x s, Tp.walkL_spare b r]
    cases Tp.spares b x <;> rfl
end

-- replacing
def Tp.idx (n : Int) : List Int → Nat → Int
  | [], _ => -1
  | x :: r, i => if x = n then i else Tp.idx n r (i + 1)
def Tp.by (kind : Int) (fr : List Int) (to : List Tp) (k n : Int) : Option Tp :=
  if k = kind then (if 0 ≤ Tp.idx n fr 0 then to[(Tp.idx n fr 0).toNat]? else none) else none
def Tp.fMeasure (kind : Int) (fr : List Int) (to : List Tp) (s : Int) (t : Tp) : Int × Bool × Bool :=
  match Tp.by kind fr to t.k t.n with
  | some u => ((Tp.walk Tp.fCount u s).1, false, (Tp.walk Tp.fCount u s).2)
  | none => Tp.fCount s t
mutual
def Tp.put (kind : Int) (fr : List Int) (to : List Tp) : Tp → Tp
  | .mk k n ks => match Tp.by kind fr to k n with
    | some u => u
    | none => .mk k n (Tp.putL kind fr to ks)
def Tp.putL (kind : Int) (fr : List Int) (to : List Tp) : List Tp → List Tp
  | [] => []
  | x :: r => Tp.put kind fr to x :: Tp.putL kind fr to r
end
mutual
theorem Tp.walk_measure (kind : Int) (fr : List Int) (to : List Tp) : ∀ (t : Tp) (s : Int), 0 ≤ s → s ≤ 1000 → Tp.walk (Tp.fMeasure kind fr to) t s = Tp.upto (s + (Tp.put kind fr to t).cnt)
  | .mk k n ks, s, h0, h => by
    rw [Tp.walk_mk, Tp.put]
    simp only [Tp.fMeasure, Tp.k, Tp.n]
    cases hb : Tp.by kind fr to k n with
    | some u => simp [Tp.walk_count u s h0 h]
    | none =>
      simp only [Tp.fCount, Tp.cnt, Tp.wrap_small h0 h]
      by_cases h1 : s + 1 ≤ 1000
      · rw [decide_eq_true h1]
        simp only [Bool.and_self, cond_true]
        rw [Tp.walkL_measure kind fr to ks (s + 1) (by omega) h1]
        congr 1; omega
      · rw [decide_eq_false h1]
        unfold Tp.upto
        rw [if_neg (by omega)]
        simp
        omega
theorem Tp.walkL_measure (kind : Int) (fr : List Int) (to : List Tp) : ∀ (l : List Tp) (s : Int), 0 ≤ s → s ≤ 1000 → Tp.walkL (Tp.fMeasure kind fr to) l s = Tp.upto (s + Tp.cntL (Tp.putL kind fr to l))
  | [], s, h0, h => by rw [Tp.walkL_nil, Tp.putL, Tp.cntL]; unfold Tp.upto; rw [if_pos (by omega)]; simp
  | x :: r, s, h0, h => by
    rw [Tp.walkL_cons, Tp.putL, Tp.cntL, Tp.walk_measure kind fr to x s h0 h]
    by_cases h1 : s + (Tp.put kind fr to x).cnt ≤ 1000
    · have e : Tp.upto (s + (Tp.put kind fr to x).cnt) = (s + (Tp.put kind fr to x).cnt, true) := by unfold Tp.upto; rw [if_pos h1]
      rw [e]
      simp only [cond_true]
      rw [Tp.walkL_measure kind fr to r _ (by omega) h1]
      congr 1; omega
    · have e : Tp.upto (s + (Tp.put kind fr to x).cnt) = (1001, false) := by unfold Tp.upto; rw [if_neg h1]
      rw [e]
      unfold Tp.upto
      rw [if_neg (by omega)]
      rfl
end

-- the order
def Tp.num (a b : Int) : Int := if a < b then -1 else if b < a then 1 else 0
def Tp.or (a b : Int) : Int := if a = 0 then b else a
mutual
def Tp.cmp : Tp → Tp → Int
  | .mk k n ks, .mk k' n' ks' => Tp.or (Tp.num k k') (Tp.or (Tp.num n n') (Tp.or (Tp.num ks.length ks'.length) (Tp.cmpL ks ks')))
def Tp.cmpL : List Tp → List Tp → Int
  | [], [] => 0
  | [], _ :: _ => -1
  | _ :: _, [] => 1
  | x :: r, y :: r' => Tp.or (Tp.cmp x y) (Tp.cmpL r r')
end
end Go.Proofs.Ytknlpeloaapaiaa
