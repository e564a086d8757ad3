/- Pieces: GrR GrF GrF2. -/
import Derived.Test.YtjebepnphoeiaabGreatDoorQaj
import Derived.Deep.RegionWith
import Derived.Deep.RegionHeld
import Derived.BigRegion
namespace Go.Proofs.YtjebepnphoeiaabGreatDoor
set_option linter.unusedVariables false

def Gr.Mo (a b : Gr.Res) : Prop := a = .out ∨ b = a
theorem Gr.Mo.bind {a b : Gr.Res} {k l : Nd → Gr.Ts → Gr.Res} (h : Gr.Mo a b) (hk : ∀ v r, Gr.Mo (k v r) (l v r)) : Gr.Mo (a.bind k) (b.bind l) := by
 rcases h with rfl | rfl
 ·
  exact .inl rfl
 ·
  cases b with
  | ok v r => exact hk v r
  | bad r e => exact .inr rfl
  | out => exact .inr rfl
theorem Gr.Mo.pbind {a : Gr.PRes} {k l : List ByteArray → Bool → Gr.Ts → Gr.Res} (hk : ∀ p b r, Gr.Mo (k p b r) (l p b r)) : Gr.Mo (a.bind k) (a.bind l) := by
 cases a with
 | ok p b r => exact hk p b r
 | bad r e => exact .inr rfl
theorem Gr.Mo.need {x : List UInt8} {ts : Gr.Ts} {k l : Gr.Ts → Gr.Res} (hk : Gr.Mo (k ts.tail) (l ts.tail)) : Gr.Mo (Gr.need x ts k) (Gr.need x ts l) := by
 unfold Gr.need
 split
 ·
  exact hk
 ·
  exact .inr rfl
theorem Gr.Mo.name {q : Nat} {ts : Gr.Ts} {k l : ByteArray → Gr.Ts → Gr.Res} (hk : ∀ s, Gr.Mo (k s ts.tail) (l s ts.tail)) : Gr.Mo (Gr.name q ts k) (Gr.name q ts l) := by
 unfold Gr.name
 split
 ·
  exact hk _
 ·
  exact .inr rfl
theorem Gr.Mo.ite {c : Prop} [Decidable c] {a b a2 b2 : Gr.Res} (h1 : Gr.Mo a a2) (h2 : Gr.Mo b b2) : Gr.Mo (if c then a else b) (if c then a2 else b2) := by
 split
 ·
  exact h1
 ·
  exact h2
theorem Gr.more1 : ∀ (f : Nat) (nt : Gr.Nt) (ts : Gr.Ts), Gr.Mo (Gr.g f nt ts) (Gr.g (f + 1) nt ts)
 | 0, nt, ts => .inl rfl
 | f + 1, nt, ts => by
  have use : ∀ (nt' : Gr.Nt) (ts' : Gr.Ts), Gr.Mo (Gr.g f nt' ts') (Gr.g (f + 1) nt' ts') := Gr.more1 f
  rw [Gr.g.eq_def (f + 1), Gr.g.eq_def (f + 1 + 1)]
  cases nt <;> simp only
  all_goals repeat' first
   | exact .inr rfl
   | exact use _ _
   | (refine Gr.Mo.need ?_)
   | (refine Gr.Mo.name fun _ => ?_)
   | (refine Gr.Mo.ite ?_ ?_)
   | (refine Gr.Mo.pbind fun _ _ _ => ?_)
   | (refine Gr.Mo.bind (use _ _) fun _ _ => ?_)
theorem Gr.more {f f2 : Nat} {nt : Gr.Nt} {ts : Gr.Ts} (h : Gr.g f nt ts ≠ .out) (hf : f ≤ f2) : Gr.g f2 nt ts = Gr.g f nt ts := by
  induction f2 with
  | zero => obtain rfl : f = 0 := by omega
            rfl
  | succ f2 ih =>
    by_cases he : f = f2 + 1
    · rw [he]
    · have h1 := ih (by omega)
      rcases Gr.more1 f2 nt ts with h2 | h2
      · exact absurd (h1 ▸ h2) h
      · rw [h2, h1]

def Gr.Like (a b : Gr.Ts) : Prop := a.map (fun t => (t.kind, t.text, t.n)) = b.map (fun t => (t.kind, t.text, t.n))
theorem Gr.Like.len {a b : Gr.Ts} (h : Gr.Like a b) : a.length = b.length := by have := congrArg List.length h; simpa using this
theorem Gr.Like.cases {a b : Gr.Ts} (h : Gr.Like a b) : (a = [] ∧ b = []) ∨ ∃ t r u q, a = t :: r ∧ b = u :: q ∧ t.kind = u.kind ∧ t.text = u.text ∧ t.n = u.n ∧ Gr.Like r q := by
 cases a with
 | nil => cases b with
  | nil => exact .inl ⟨rfl, rfl⟩
  | cons u q => cases h
 | cons t r => cases b with
  | nil => cases h
  | cons u q =>
   unfold Gr.Like at h
   simp only [List.map_cons, List.cons.injEq, Prod.mk.injEq] at h
   exact .inr ⟨t, r, u, q, rfl, rfl, h.1.1, h.1.2.1, h.1.2.2, h.2⟩
theorem Gr.Like.refl (a : Gr.Ts) : Gr.Like a a := rfl
theorem Gr.Like.isT {a b : Gr.Ts} (h : Gr.Like a b) (x : List UInt8) : Gr.isT x a = Gr.isT x b := by
 rcases h.cases with ⟨rfl, rfl⟩ | ⟨t, r, u, q, rfl, rfl, h1, h2, h3, -⟩
 ·
  rfl
 ·
  simp only [Gr.isT, h1, h2]
theorem Gr.Like.kd {a b : Gr.Ts} (h : Gr.Like a b) : Gr.kd a = Gr.kd b := by
 rcases h.cases with ⟨rfl, rfl⟩ | ⟨t, r, u, q, rfl, rfl, h1, h2, h3, -⟩
 ·
  rfl
 ·
  exact h1
theorem Gr.Like.hd {a b : Gr.Ts} (h : Gr.Like a b) : Gr.hd a = Gr.hd b := by
 rcases h.cases with ⟨rfl, rfl⟩ | ⟨t, r, u, q, rfl, rfl, h1, h2, h3, -⟩
 ·
  rfl
 ·
  simp only [Gr.hd, Gr.tx, h2]
theorem Gr.Like.hn {a b : Gr.Ts} (h : Gr.Like a b) : Gr.hn a = Gr.hn b := by
 rcases h.cases with ⟨rfl, rfl⟩ | ⟨t, r, u, q, rfl, rfl, h1, h2, h3, -⟩
 ·
  rfl
 ·
  exact h3
theorem Gr.Like.tail {a b : Gr.Ts} (h : Gr.Like a b) : Gr.Like a.tail b.tail := by
 rcases h.cases with ⟨rfl, rfl⟩ | ⟨t, r, u, q, rfl, rfl, h1, h2, h3, h4⟩
 ·
  rfl
 ·
  exact h4
theorem Gr.Like.begE {a b : Gr.Ts} (h : Gr.Like a b) : Gr.begE a = Gr.begE b := by unfold Gr.begE; simp only [h.kd, h.isT]
theorem Gr.Like.begP {a b : Gr.Ts} (h : Gr.Like a b) : Gr.begP a = Gr.begP b := by unfold Gr.begP; simp only [h.kd, h.isT]
theorem Gr.Like.lows : ∀ {a b : Gr.Ts}, Gr.Like a b → (Gr.lows a).1 = (Gr.lows b).1 ∧ Gr.Like (Gr.lows a).2 (Gr.lows b).2
 | [], b, h => by
  rcases h.cases with ⟨-, rfl⟩ | ⟨t, r, u, q, h0, -⟩
  ·
   exact ⟨rfl, rfl⟩
  ·
   cases h0
 | t :: r, b, h => by
  rcases h.cases with ⟨h0, -⟩ | ⟨t, r, u, q, h0, rfl, h1, h2, h3, h4⟩
  ·
   cases h0
  ·
   cases h0
   have ih := Gr.Like.lows h4
   unfold Gr.lows
   rw [h1]
   split
   ·
    exact ⟨by rw [ih.1]; unfold Gr.tx; rw [h2], ih.2⟩
   ·
    exact ⟨rfl, h⟩
def Gr.Rl : Gr.Res → Gr.Res → Prop
 | .ok v r, .ok u q => v = u ∧ Gr.Like r q
 | .bad r e, .bad q c => e = c ∧ Gr.Like r q
 | .out, .out => True
 | _, _ => False
theorem Gr.Rl.bind {a b : Gr.Res} {k l : Nd → Gr.Ts → Gr.Res} (h : Gr.Rl a b) (hk : ∀ v r q, Gr.Like r q → Gr.Rl (k v r) (l v q)) : Gr.Rl (a.bind k) (b.bind l) := by
 cases a <;> cases b <;> first | exact h.elim | skip
 ·
  obtain ⟨rfl, h2⟩ := h; exact hk _ _ _ h2
 ·
  exact h
 ·
  exact h
def Gr.PRl : Gr.PRes → Gr.PRes → Prop
 | .ok p b r, .ok p2 b2 q => p = p2 ∧ b = b2 ∧ Gr.Like r q
 | .bad r e, .bad q c => e = c ∧ Gr.Like r q
 | _, _ => False
theorem Gr.PRl.bind {a b : Gr.PRes} {k l : List ByteArray → Bool → Gr.Ts → Gr.Res} (h : Gr.PRl a b) (hk : ∀ p c r q, Gr.Like r q → Gr.Rl (k p c r) (l p c q)) : Gr.Rl (a.bind k) (b.bind l) := by
 cases a <;> cases b <;> first | exact h.elim | skip
 ·
  obtain ⟨rfl, rfl, h2⟩ := h; exact hk _ _ _ _ h2
 ·
  exact h
theorem Gr.Rl.need {x : List UInt8} {a b : Gr.Ts} {k l : Gr.Ts → Gr.Res} (h : Gr.Like a b) (hk : Gr.Like a.tail b.tail → Gr.Rl (k a.tail) (l b.tail)) : Gr.Rl (Gr.need x a k) (Gr.need x b l) := by
 unfold Gr.need
 rw [h.isT]
 split
 ·
  exact hk h.tail
 ·
  exact ⟨rfl, h⟩
theorem Gr.Rl.name {n : Nat} {a b : Gr.Ts} {k l : ByteArray → Gr.Ts → Gr.Res} (h : Gr.Like a b) (hk : ∀ s, Gr.Like a.tail b.tail → Gr.Rl (k s a.tail) (l s b.tail)) : Gr.Rl (Gr.name n a k) (Gr.name n b l) := by
 unfold Gr.name
 rw [h.kd, h.hd]
 split
 ·
  exact hk _ h.tail
 ·
  exact ⟨rfl, h⟩
theorem Gr.Rl.ite {c d : Prop} [Decidable c] [Decidable d] {a b a2 b2 : Gr.Res} (hc : c = d) (h1 : Gr.Rl a a2) (h2 : Gr.Rl b b2) : Gr.Rl (if c then a else b) (if d then a2 else b2) := by
 subst hc
 by_cases h : c
 ·
  rw [if_pos h, if_pos h]; exact h1
 ·
  rw [if_neg h, if_neg h]; exact h2
theorem Gr.Rl.path (lo up : Bool) {fa fb : Gr.Ts} (hf : Gr.Like fa fb) : ∀ (k : Nat) {a b : Gr.Ts} (acc : List ByteArray), Gr.Like a b → Gr.PRl (Gr.path lo up fa k a acc) (Gr.path lo up fb k b acc)
 | k, a, b, acc, h => by
  unfold Gr.path
  rw [h.kd]
  split
  ·
   exact ⟨rfl, h⟩
  ·
   cases k with
   | zero => exact ⟨rfl, hf⟩
   | succ k =>
    simp only
    rw [h.tail.isT, h.hd]
    split
    ·
     exact Gr.Rl.path lo up hf k _ h.tail.tail
    ·
     split
     ·
      exact ⟨rfl, rfl, h.tail⟩
     ·
      exact ⟨rfl, h.tail⟩
theorem Gr.like : ∀ (f : Nat) (nt : Gr.Nt) (a b : Gr.Ts), Gr.Like a b → Gr.Rl (Gr.g f nt a) (Gr.g f nt b)
 | 0, nt, a, b, h => trivial
 | f + 1, nt, a, b, h => by
  have use : ∀ (nt' : Gr.Nt) (a b : Gr.Ts), Gr.Like a b → Gr.Rl (Gr.g f nt' a) (Gr.g f nt' b) := Gr.like f
  rw [Gr.g.eq_def (f + 1) nt a, Gr.g.eq_def (f + 1) nt b]
  cases nt <;> simp only [h.hd, h.hn, h.kd, h.begE, h.begP]
  all_goals repeat' first
   | assumption
   | exact ⟨rfl, Gr.Like.tail (by assumption)⟩
   | exact ⟨rfl, by assumption⟩
   | (refine use _ _ _ (by assumption))
   | (refine use _ _ _ (Gr.Like.tail (by assumption)))
   | (refine Gr.Rl.need (by assumption) fun _ => ?_)
   | (refine Gr.Rl.name (Gr.Like.tail (by assumption)) fun _ _ => ?_)
   | (refine Gr.Rl.name (by assumption) fun _ _ => ?_)
   | (refine Gr.Rl.ite rfl ?_ ?_)
   | (refine Gr.Rl.ite (by rw [Gr.Like.isT h, Gr.Like.isT h]) ?_ ?_)
   | (refine Gr.Rl.ite (by rw [Gr.Like.isT (by assumption)]) ?_ ?_)
   | (refine Gr.Rl.ite (by rw [Gr.Like.begP (by assumption)]) ?_ ?_)
   | (refine Gr.PRl.bind (Gr.Rl.path _ _ (by assumption) _ _ (by assumption)) fun _ _ _ _ _ => ?_)
   | (refine Gr.Rl.bind (use _ _ _ (by assumption)) fun _ _ _ _ => ?_)
   | (refine Gr.Rl.bind (use _ _ _ (Gr.Like.tail (by assumption))) fun _ _ _ _ => ?_)
   | (rw [(Gr.Like.lows (by assumption)).1]; exact use _ _ _ (Gr.Like.lows (by assumption)).2)

structure Gr.Stop (z : Gr.Ts) : Prop where
 kind : Gr.kd z = 6
 text : ∀ x, Gr.isT x z = true → x = [41] ∨ x = [44]
theorem Gr.Stop.is {z : Gr.Ts} (h : Gr.Stop z) {x : List UInt8} (h1 : x ≠ [41]) (h2 : x ≠ [44]) (ts : Gr.Ts) : Gr.isT x (ts ++ z) = Gr.isT x ts := by
 cases ts with
 | cons t r => rfl
 | nil =>
  show Gr.isT x z = false
  cases h3 : Gr.isT x z with
  | false => rfl
  | true => rcases h.text x h3 with e | e <;> contradiction
theorem Gr.app_kd {z ts : Gr.Ts} (h : ts ≠ []) : Gr.kd (ts ++ z) = Gr.kd ts := by
 cases ts with
 | nil => exact absurd rfl h
 | cons t r => rfl
theorem Gr.app_isT {z ts : Gr.Ts} (h : ts ≠ []) (x : List UInt8) : Gr.isT x (ts ++ z) = Gr.isT x ts := by
 cases ts with
 | nil => exact absurd rfl h
 | cons t r => rfl
theorem Gr.app_hd {z ts : Gr.Ts} (h : ts ≠ []) : Gr.hd (ts ++ z) = Gr.hd ts := by
 cases ts with
 | nil => exact absurd rfl h
 | cons t r => rfl
theorem Gr.app_hn {z ts : Gr.Ts} (h : ts ≠ []) : Gr.hn (ts ++ z) = Gr.hn ts := by
 cases ts with
 | nil => exact absurd rfl h
 | cons t r => rfl
theorem Gr.app_tail {z ts : Gr.Ts} (h : ts ≠ []) : (ts ++ z).tail = ts.tail ++ z := by
 cases ts with
 | nil => exact absurd rfl h
 | cons t r => rfl
theorem Gr.Stop.begP {z : Gr.Ts} (h : Gr.Stop z) (ts : Gr.Ts) : Gr.begP (ts ++ z) = Gr.begP ts := by
 cases ts with
 | cons t r => rfl
 | nil =>
  have e : ∀ x, x ≠ [41] → x ≠ [44] → Gr.isT x z = false := fun x h1 h2 => h.is h1 h2 []
  show Gr.begP z = false
  unfold Gr.begP
  rw [h.kind, e _ (by decide) (by decide), e _ (by decide) (by decide), e _ (by decide) (by decide), e _ (by decide) (by decide)]
  decide
theorem Gr.Stop.begE {z : Gr.Ts} (h : Gr.Stop z) (ts : Gr.Ts) : Gr.begE (ts ++ z) = Gr.begE ts := by
 cases ts with
 | cons t r => rfl
 | nil =>
  have e : ∀ x, x ≠ [41] → x ≠ [44] → Gr.isT x z = false := fun x h1 h2 => h.is h1 h2 []
  show Gr.begE z = false
  unfold Gr.begE
  rw [h.kind, e _ (by decide) (by decide), e _ (by decide) (by decide), e _ (by decide) (by decide), e _ (by decide) (by decide), e _ (by decide) (by decide)]
  decide
def Gr.Ex (z : Gr.Ts) (a b : Gr.Res) : Prop := ∀ v r, a = .ok v r → b = .ok v (r ++ z)
theorem Gr.Ex.bind {z : Gr.Ts} {a b : Gr.Res} {k l : Nd → Gr.Ts → Gr.Res} (h : Gr.Ex z a b) (hk : ∀ v r, Gr.Ex z (k v r) (l v (r ++ z))) : Gr.Ex z (a.bind k) (b.bind l) := by
 cases a with
 | ok v r => rw [h v r rfl]; exact hk v r
 | bad r e => intro v r h; cases h
 | out => intro v r h; cases h
theorem Gr.Ex.bad {z : Gr.Ts} (r : Gr.Ts) (e : Int) (b : Gr.Res) : Gr.Ex z (.bad r e) b := fun v r h => by cases h
theorem Gr.Ex.ok {z : Gr.Ts} (v : Nd) (r : Gr.Ts) : Gr.Ex z (.ok v r) (.ok v (r ++ z)) := fun v r h => by cases h; rfl
def Gr.PEx (z : Gr.Ts) (a b : Gr.PRes) : Prop := ∀ p l r, a = .ok p l r → b = .ok p l (r ++ z)
theorem Gr.PEx.bind {z : Gr.Ts} {a b : Gr.PRes} {k l : List ByteArray → Bool → Gr.Ts → Gr.Res} (h : Gr.PEx z a b) (hk : ∀ p c r, Gr.Ex z (k p c r) (l p c (r ++ z))) : Gr.Ex z (a.bind k) (b.bind l) := by
 cases a with
 | ok p c r => rw [h p c r rfl]; exact hk p c r
 | bad r e => intro v r h; cases h
theorem Gr.Ex.need {z : Gr.Ts} {x : List UInt8} {ts : Gr.Ts} {k l : Gr.Ts → Gr.Res} (hk : Gr.Ex z (k ts.tail) (l (ts.tail ++ z))) : Gr.Ex z (Gr.need x ts k) (Gr.need x (ts ++ z) l) := by
 cases ts with
 | nil => exact Gr.Ex.bad _ _ _
 | cons t r =>
  unfold Gr.need
  rw [Gr.app_isT (by simp)]
  split
  ·
   exact hk
  ·
   exact Gr.Ex.bad _ _ _
theorem Gr.Ex.name {z : Gr.Ts} {q : Nat} {ts : Gr.Ts} {k l : ByteArray → Gr.Ts → Gr.Res} (hk : ∀ s, Gr.Ex z (k s ts.tail) (l s (ts.tail ++ z))) : Gr.Ex z (Gr.name (q + 1) ts k) (Gr.name (q + 1) (ts ++ z) l) := by
 cases ts with
 | nil => exact Gr.Ex.bad _ _ _
 | cons t r =>
  unfold Gr.name
  rw [Gr.app_kd (by simp), Gr.app_hd (by simp)]
  split
  ·
   exact hk _
  ·
   exact Gr.Ex.bad _ _ _
theorem Gr.Ex.ite {z : Gr.Ts} {c d : Prop} [Decidable c] [Decidable d] {a b a2 b2 : Gr.Res} (hc : d = c) (h1 : Gr.Ex z a a2) (h2 : Gr.Ex z b b2) : Gr.Ex z (if c then a else b) (if d then a2 else b2) := by
 subst hc
 by_cases h : d
 ·
  rw [if_pos h, if_pos h]; exact h1
 ·
  rw [if_neg h, if_neg h]; exact h2
theorem Gr.Ex.path {z : Gr.Ts} (hz : Gr.Stop z) (lo up : Bool) (fa fb : Gr.Ts) : ∀ (k : Nat) (ts : Gr.Ts) (acc : List ByteArray), Gr.PEx z (Gr.path lo up fa k ts acc) (Gr.path lo up fb k (ts ++ z) acc)
 | k, ts, acc => by
  cases ts with
  | nil => intro p l r h; unfold Gr.path at h; simp [Gr.kd] at h
  | cons t r =>
   unfold Gr.path
   rw [Gr.app_kd (by simp)]
   split
   ·
    intro p l r h; cases h
   ·
    cases k with
    | zero => intro p l r h; cases h
    | succ k =>
     simp only
     rw [Gr.app_tail (by simp), Gr.app_hd (by simp), hz.is (by decide) (by decide)]
     split
     ·
      next h1 =>
      rw [Bool.and_eq_true] at h1
      have hne : (t :: r).tail ≠ [] := fun e => by rw [e] at h1; exact absurd h1.2 (by decide)
      rw [Gr.app_tail hne]
      exact Gr.Ex.path hz lo up fa fb k _ _
     ·
      split
      ·
       intro p l r2 h; cases h; rfl
      ·
       intro p l r h; cases h
theorem Gr.Stop.lows {z : Gr.Ts} (h : Gr.Stop z) : ∀ (ts : Gr.Ts), Gr.lows (ts ++ z) = ((Gr.lows ts).1, (Gr.lows ts).2 ++ z)
 | [] => by
  show Gr.lows z = ([], z)
  cases z with
  | nil => rfl
  | cons t r =>
   have hk : t.kind = 6 := h.kind
   unfold Gr.lows
   rw [if_neg (by omega)]
 | t :: r => by
  have ih := Gr.Stop.lows h r
  show Gr.lows (t :: (r ++ z)) = _
  unfold Gr.lows
  rw [ih]
  split <;> rfl
theorem Gr.isT_tail {x : List UInt8} {ts : Gr.Ts} (h : Gr.isT x ts = true) : ts ≠ [] := by
 intro e
 subst e
 cases h
theorem Gr.Ex.iteN {z : Gr.Ts} (hz : Gr.Stop z) {x : List UInt8} {ts : Gr.Ts} {a b a2 b2 : Gr.Res} (hx : x ≠ [41]) (hy : x ≠ [44]) (h1 : ts ≠ [] → Gr.Ex z a a2) (h2 : Gr.Ex z b b2) : Gr.Ex z (if Gr.isT x ts = true then a else b) (if Gr.isT x (ts ++ z) = true then a2 else b2) := by
 rw [hz.is hx hy]
 split
 ·
  next h => exact h1 (Gr.isT_tail h)
 ·
  exact h2
theorem Gr.Ex.iteE {z : Gr.Ts} (hz : Gr.Stop z) {ts : Gr.Ts} {a b a2 b2 : Gr.Res} (h1 : Gr.Ex z a a2) (h2 : Gr.Ex z b b2) : Gr.Ex z (if Gr.begE ts = true then a else b) (if Gr.begE (ts ++ z) = true then a2 else b2) := by
 rw [hz.begE]; exact Gr.Ex.ite rfl h1 h2
theorem Gr.Ex.iteP {z : Gr.Ts} (hz : Gr.Stop z) {ts : Gr.Ts} {a b a2 b2 : Gr.Res} (h1 : Gr.Ex z a a2) (h2 : Gr.Ex z b b2) : Gr.Ex z (if Gr.begP ts = true then a else b) (if Gr.begP (ts ++ z) = true then a2 else b2) := by
 rw [hz.begP]; exact Gr.Ex.ite rfl h1 h2
theorem Gr.none_ok {f : Nat} {nt : Gr.Nt} (hl : nt.least = 1) {v : Nd} {r : Gr.Ts} : Gr.g f nt [] ≠ .ok v r := by
 intro h
 have h1 := Gr.fine (f + (nt.rank + 1)) nt [] (by simp; omega)
 rw [Gr.more (by rw [h]; simp) (by omega), h, hl] at h1
 have : r.length + 1 ≤ 0 := h1
 omega
theorem Gr.Ex.comma {z : Gr.Ts} {x y : List UInt8} {ts : Gr.Ts} {a a2 : Gr.Res} {k l : Gr.Ts → Gr.Res} (h1 : ts ≠ [] → Gr.Ex z a a2) (hk : Gr.Ex z (k ts.tail) (l (ts.tail ++ z))) : Gr.Ex z (if Gr.isT x ts = true then a else Gr.need y ts k) (if Gr.isT x (ts ++ z) = true then a2 else Gr.need y (ts ++ z) l) := by
 cases ts with
 | nil => exact fun v r h => by cases h
 | cons t r =>
  rw [Gr.app_isT (by simp)]
  exact Gr.Ex.ite rfl (h1 (by simp)) (Gr.Ex.need hk)
theorem Gr.Ex.comma2 {z : Gr.Ts} {x x2 y : List UInt8} {ts : Gr.Ts} {a a2 b b2 : Gr.Res} {k l : Gr.Ts → Gr.Res} (h1 : ts ≠ [] → Gr.Ex z a a2) (h2 : ts ≠ [] → Gr.Ex z b b2) (hk : Gr.Ex z (k ts.tail) (l (ts.tail ++ z))) : Gr.Ex z (if Gr.isT x ts = true then a else if Gr.isT x2 ts = true then b else Gr.need y ts k) (if Gr.isT x (ts ++ z) = true then a2 else if Gr.isT x2 (ts ++ z) = true then b2 else Gr.need y (ts ++ z) l) := by
 cases ts with
 | nil => exact fun v r h => by cases h
 | cons t r =>
  rw [Gr.app_isT (by simp)]
  exact Gr.Ex.ite rfl (h1 (by simp)) (Gr.Ex.comma h2 hk)
set_option maxHeartbeats 1000000 in
theorem Gr.ext {z : Gr.Ts} (hz : Gr.Stop z) : ∀ (f : Nat) (nt : Gr.Nt) (ts : Gr.Ts), Gr.Ex z (Gr.g f nt ts) (Gr.g f nt (ts ++ z))
 | 0, nt, ts => fun v r h => by cases h
 | f + 1, nt, ts => by
  have use : ∀ (nt' : Gr.Nt) (ts : Gr.Ts), Gr.Ex z (Gr.g f nt' ts) (Gr.g f nt' (ts ++ z)) := Gr.ext hz f
  have use1 : ∀ (nt' : Gr.Nt) (ts : Gr.Ts), ts ≠ [] → Gr.Ex z (Gr.g f nt' ts.tail) (Gr.g f nt' (ts ++ z).tail) := fun nt' ts h => by rw [Gr.app_tail h]; exact use nt' _
  by_cases hl : nt.least = 1 ∧ ts = []
  ·
   obtain ⟨hl, rfl⟩ := hl
   exact fun v r h => absurd h (Gr.none_ok hl)
  rw [Gr.g.eq_def (f + 1) nt ts, Gr.g.eq_def (f + 1) nt (ts ++ z)]
  cases nt <;> simp only
  case pairGo | sumGo | prodGo | appGo =>
   clear hl
   repeat' first
    | exact use _ _
    | exact Gr.Ex.ok _ _
    | (refine Gr.Ex.iteN hz (by decide) (by decide) (fun _ => ?_) ?_)
    | (refine Gr.Ex.iteE hz ?_ ?_)
    | (refine Gr.Ex.bind (use _ _) fun _ _ => ?_)
    | (refine Gr.Ex.bind (use1 _ _ (by assumption)) fun _ _ => ?_)
  all_goals
   have hne : ts ≠ [] := fun e => hl ⟨rfl, e⟩
   clear hl
   try simp only [Gr.app_isT hne, Gr.app_kd hne, Gr.app_hd hne, Gr.app_hn hne, Gr.app_tail hne]
  all_goals repeat' first
   | exact use _ _
   | exact use1 _ _ (by assumption)
   | exact Gr.Ex.bad _ _ _
   | exact Gr.Ex.ok _ _
   | (refine Gr.Ex.need ?_)
   | (refine Gr.Ex.name fun _ => ?_)
   | (refine Gr.Ex.iteP hz ?_ ?_)
   | (refine Gr.Ex.iteE hz ?_ ?_)
   | (refine Gr.Ex.iteN hz (by decide) (by decide) (fun _ => ?_) ?_)
   | (refine Gr.Ex.comma (fun _ => ?_) ?_)
   | (refine Gr.Ex.comma2 (fun _ => ?_) (fun _ => ?_) ?_)
   | (refine Gr.Ex.ite rfl ?_ ?_)
   | (refine Gr.PEx.bind (Gr.Ex.path hz _ _ _ _ _ _ _) fun _ _ _ => ?_)
   | (refine Gr.Ex.bind (use _ _) fun _ _ => ?_)
   | (refine Gr.Ex.bind (use1 _ _ (by assumption)) fun _ _ => ?_)
   | (rw [hz.lows]; exact use _ _)
theorem Gr.ok_len {f : Nat} {nt : Gr.Nt} {ts r : Gr.Ts} {v : Nd} (h : Gr.g f nt ts = .ok v r) : r.length + nt.least ≤ ts.length := by
 have h1 := Gr.fine (f + (10 * ts.length + nt.rank + 1)) nt ts (by omega)
 rw [Gr.more (by rw [h]; simp) (by omega), h] at h1
 exact h1
end Go.Proofs.YtjebepnphoeiaabGreatDoor
namespace Go.Proofs.YtjebepnphoeiaabGreatDoor
open Go.RowKit
set_option linter.unusedVariables false

def Gr.left (B : Nat) (w : World) : Nat := match w.cell? ⟨B, 0, none⟩ with
 | some (.slice _ n _) => n
 | _ => 0
theorem Rd.left {w : World} {B S : Nat} {ts : Gr.Ts} (h : Rd w B S ts) : Gr.left B w = ts.length := by
 obtain ⟨p, c, h0⟩ := h.form
 unfold Gr.left
 rw [h0]
theorem Gr.less {a b c : Nat} (h : a = b) (h2 : b < c) : a < c := h ▸ h2
def Gx (m L : Nat) : Nat → Prop := fun b => m ≤ b ∧ b ≠ L
theorem Tx.lt {w : World} {K : Nat → Prop} {v : Value} {xs : List ByteArray} (h : Tx w K v xs) : Tx w (fun b => K b ∧ b < w.heap.size) v xs := by
 rcases h with ⟨b, o, c, hv, hk, hl, hc⟩ | h
 ·
  cases xs with
  | nil => exact .inr ⟨rfl, _, _, hv⟩
  | cons x r => exact .inl ⟨b, o, c, hv, ⟨hk, World.block_lt_of_cell? w _ (hc 0 x rfl)⟩, hl, hc⟩
 ·
  exact .inr h
theorem Row.lt {w : World} {K : Nat → Prop} {k : Nat} {R R' : List Value → Nd → Prop} {v : Value} {l : List Nd} (hk : 0 < k) (h : Row w K k R v l) (hR : ∀ vs x, R vs x → R' vs x) : Row w (fun b => K b ∧ b < w.heap.size) k R' v l := by
 rcases h with ⟨b, o, c, hv, hK, hl, hm, hc⟩ | h
 ·
  cases l with
  | nil => exact .inr ⟨rfl, _, _, hv⟩
  | cons x r =>
   refine .inl ⟨b, o, c, hv, ⟨hK, ?_⟩, hl, hm, fun i y hy => ?_⟩
   ·
    obtain ⟨vs, h1, h2, -⟩ := hc 0 x rfl
    exact World.block_lt_of_cell? w _ (h2 0 _ (List.getElem?_eq_getElem (by omega)))
   ·
    obtain ⟨vs, h1, h2, h3⟩ := hc i y hy
    exact ⟨vs, h1, h2, hR _ _ h3⟩
 ·
  exact .inr h
theorem Fk.lt {w : World} {K : Nat → Prop} {f : Fk} {v : Value} {s : Sc} (h : f.Ok w K v s) : f.Ok w (fun b => K b ∧ b < w.heap.size) v s := by
 cases f with
 | int => exact h
 | place => exact h
 | str => exact h
 | strs => obtain ⟨xs, h1, h2⟩ := h; exact ⟨xs, h1.lt, h2⟩
theorem At.lt {w : World} {K : Nat → Prop} : ∀ (n s : Nat) (vs : List Value) (nd : Nd), At w K n s vs nd → At w (fun b => K b ∧ b < w.heap.size) n s vs nd
 | 0, _, _, _, h => h
 | n + 1, s, vs, nd, h => ⟨h.1, h.2.1.imp fun _ _ _ q => Fk.lt q, h.2.2.imp fun t _ _ q => Row.lt (Nd.size_pos t) q (At.lt n t)⟩
theorem At.gx {w : World} {m n s L : Nat} {vs : List Value} {nd : Nd} (h : At w (Ge m) n s vs nd) (hL : w.heap.size ≤ L) : At w (Gx m L) n s vs nd :=
 At.move (Keeps.refl _ _) (fun b hb => ⟨hb.1, by have : b < w.heap.size := hb.2; omega⟩) _ _ _ _ (At.lt _ _ _ _ h)
theorem At.gx2 {w : World} {m k n s L : Nat} {vs : List Value} {nd : Nd} (h : At w (Ge k) n s vs nd) (hm : m ≤ k) (hL : L < k) : At w (Gx m L) n s vs nd :=
 At.move (Keeps.refl _ _) (fun b hb => ⟨Nat.le_trans hm hb, by have : k ≤ b := hb; omega⟩) _ _ _ _ h
theorem At.ge {w : World} {m n s L : Nat} {vs : List Value} {nd : Nd} (h : At w (Gx m L) n s vs nd) : At w (Ge m) n s vs nd := At.move (Keeps.refl _ _) (fun b hb => hb.1) _ _ _ _ h
theorem Bes.atx {B m n s L : Nat} {w w' : World} {vs : List Value} {nd : Nd} (h : Bes B w w') (hm : B < m) (ha : At w (Gx m L) n s vs nd) : At w' (Gx m L) n s vs nd :=
 At.move (fun b o v hb hv => h.keeps hm b o v hb.1 hv) (fun _ h => h) _ _ _ _ ha
theorem Save.atx {m n s L : Nat} {w w' : World} {vs : List Value} {nd : Nd} (h : Save L w w') (ha : At w (Gx m L) n s vs nd) : At w' (Gx m L) n s vs nd :=
 At.move (Keeps.of_save h (fun hb => hb.2 rfl)) (fun _ h => h) _ _ _ _ ha
theorem AtL.mk1x {w : World} {K : Nat → Prop} {n s : Nat} {va : List Value} {a : Nd} (ha : At w K n s va a) (hK : K w.heap.size) (t : TypeId) (hs : va.length = Nd.size s) : AtL (w.alloc (.cells va.toArray t)) K n s (.slice (some ⟨w.heap.size, 0, none⟩) 1 1) [a] := by
 refine .inl ⟨w.heap.size, 0, 1, rfl, hK, Nat.le_refl _, by unfold maxLen; simp, fun i x hx => ?_⟩
 match i, hx with
 | 0, hx =>
  cases hx
  refine ⟨va, hs, fun j v hv => ?_, At.move (Keeps.of_below (bl_alloc (Below.refl _ _) _)) (fun _ h => h) _ _ _ _ ha⟩
  rw [World.cell?_alloc_at _ _ _ _ rfl]
  simpa using hv
theorem AtL.mk2x {w : World} {K : Nat → Prop} {n s : Nat} {va vb : List Value} {a b : Nd} (ha : At w K n s va a) (hb : At w K n s vb b) (hK : K w.heap.size) (t : TypeId) (hs : va.length = Nd.size s) (hs2 : vb.length = Nd.size s) : AtL (w.alloc (.cells (va ++ vb).toArray t)) K n s (.slice (some ⟨w.heap.size, 0, none⟩) 2 2) [a, b] := by
 refine .inl ⟨w.heap.size, 0, 2, rfl, hK, Nat.le_refl _, by unfold maxLen; simp, fun i x hx => ?_⟩
 match i, hx with
 | 0, hx =>
  cases hx
  refine ⟨va, hs, fun j v hv => ?_, At.move (Keeps.of_below (bl_alloc (Below.refl _ _) _)) (fun _ h => h) _ _ _ _ ha⟩
  rw [World.cell?_alloc_at _ _ _ _ rfl]
  have hj := (List.getElem?_eq_some_iff.1 hv).1
  simp [List.getElem?_append_left hj, hv]
 | 1, hx =>
  cases hx
  refine ⟨vb, hs2, fun j v hv => ?_, At.move (Keeps.of_below (bl_alloc (Below.refl _ _) _)) (fun _ h => h) _ _ _ _ hb⟩
  rw [World.cell?_alloc_at _ _ _ _ rfl]
  simp [← hs, List.getElem?_append_right, hv]
theorem Tx.new1 {w : World} {K : Nat → Prop} {x : ByteArray} (hK : K w.heap.size) (t : TypeId) : Tx (w.alloc (.cells #[.string x] t)) K (.slice (some ⟨w.heap.size, 0, none⟩) 1 1) [x] := by
 refine .inl ⟨w.heap.size, 0, 1, rfl, hK, Nat.le_refl _, fun j y hy => ?_⟩
 match j, hy with
 | 0, hy => cases hy; rw [World.cell?_alloc_at _ _ _ _ rfl]; rfl
def Gr.Ans2 (B S s : Nat) (w : World) (R : Gr.Res) (e : Ending) (w' : World) : Prop := match R with
 | .ok nd r => (∃ vs n, e = .returned (.tuple #[.agg vs.toArray, .bool true]) ∧ At w' (Ge w.heap.size) n s vs nd) ∧ Rd w' B S r ∧ Bes B w w'
 | .bad r c => e = .panicked [Gr.pe (Gr.place S r) c] ∧ (∃ ts', Rd w' B S ts') ∧ Bes B w w'
 | .out => True
theorem Gr.Ans2.mk {B S s n : Nat} {w w1 W : World} {vs : List Value} {nd : Nd} {r : Gr.Ts} (hlt : B < w.heap.size) (hs : Save w.heap.size w1 W) (hR : Rd w1 B S r) (hB : Bes B w w1) (ha : At w1 (Ge (w.heap.size + 1)) n s vs nd) :
  Gr.Ans2 B S s w (.ok nd r) (.returned (.tuple #[.agg vs.toArray, .bool true])) W :=
 ⟨⟨vs, n, rfl, At.move (Keeps.save hs (Nat.lt_succ_self _)) (Ge.le (Nat.le_succ _)) _ _ _ _ ha⟩, hR.save hs hlt, hB.save hs (Nat.le_refl _)⟩
def Gr.Rule2 (fn : FuncId) (nt : Gr.Nt) (s : Nat) (beg : Gr.Ts → Bool) (f : Nat) : Prop := ∀ (w : World) (B S : Nat) (ts : Gr.Ts), Rd w B S ts → beg ts = true → Gr.g f nt ts ≠ .out → Calls Tryz.prog fn #[.pointer (some ⟨B, 0, none⟩)] w (Gr.Ans2 B S s w (Gr.g f nt ts))
def Gr.No (B S : Nat) (z : Value) (w : World) (ts : Gr.Ts) (e : Ending) (w' : World) : Prop := e = .returned (.tuple #[z, .bool false]) ∧ Rd w' B S ts ∧ Bes B w w'
def Gr.Rule0 (fn : FuncId) (z : Value) (beg : Gr.Ts → Bool) : Prop := ∀ (w : World) (B S : Nat) (ts : Gr.Ts), Rd w B S ts → beg ts = false → Calls Tryz.prog fn #[.pointer (some ⟨B, 0, none⟩)] w (Gr.No B S z w ts)
theorem Gr.No.mk {B S : Nat} {z : Value} {w w1 W : World} {ts : Gr.Ts} (hlt : B < w.heap.size) (hs : Save w.heap.size w1 W) (hR : Rd w1 B S ts) (hB : Bes B w w1) : Gr.No B S z w ts (.returned (.tuple #[z, .bool false])) W :=
 ⟨rfl, hR.save hs hlt, hB.save hs (Nat.le_refl _)⟩
theorem Bx.of4 {w : World} {b : Nat} {v0 v1 v2 v3 : Value} (h0 : w.cell? ⟨b, 0, none⟩ = some v0) (h1 : w.cell? ⟨b, 1, none⟩ = some v1) (h2 : w.cell? ⟨b, 2, none⟩ = some v2) (h3 : w.cell? ⟨b, 3, none⟩ = some v3) (z0 : w.frozen? ⟨b, 0, none⟩ = false) (z1 : w.frozen? ⟨b, 1, none⟩ = false) (z2 : w.frozen? ⟨b, 2, none⟩ = false) (z3 : w.frozen? ⟨b, 3, none⟩ = false) : Bx w b [v0, v1, v2, v3] := by
 refine ⟨fun j v hv => ?_, fun j hj => ?_⟩
 ·
  rw [Nat.zero_add]
  match j, hv with
  | 0, hv => cases hv; exact h0
  | 1, hv => cases hv; exact h1
  | 2, hv => cases hv; exact h2
  | 3, hv => cases hv; exact h3
  | j + 4, hv => simp at hv
 ·
  match j, hj with
  | 0, _ => exact z0
  | 1, _ => exact z1
  | 2, _ => exact z2
  | 3, _ => exact z3
  | j + 4, hj => simp at hj; omega
theorem Bes.src {B M : Nat} {w a b : World} (h : Bes B a b) (hs : Save M w a) : Save M w a := hs
theorem Bx.of5 {w : World} {b : Nat} {v0 v1 v2 v3 v4 : Value} (h0 : w.cell? ⟨b, 0, none⟩ = some v0) (h1 : w.cell? ⟨b, 1, none⟩ = some v1) (h2 : w.cell? ⟨b, 2, none⟩ = some v2) (h3 : w.cell? ⟨b, 3, none⟩ = some v3) (h4 : w.cell? ⟨b, 4, none⟩ = some v4) (z0 : w.frozen? ⟨b, 0, none⟩ = false) (z1 : w.frozen? ⟨b, 1, none⟩ = false) (z2 : w.frozen? ⟨b, 2, none⟩ = false) (z3 : w.frozen? ⟨b, 3, none⟩ = false) (z4 : w.frozen? ⟨b, 4, none⟩ = false) : Bx w b [v0, v1, v2, v3, v4] := by
 refine ⟨fun j v hv => ?_, fun j hj => ?_⟩
 ·
  rw [Nat.zero_add]
  match j, hv with
  | 0, hv => cases hv; exact h0
  | 1, hv => cases hv; exact h1
  | 2, hv => cases hv; exact h2
  | 3, hv => cases hv; exact h3
  | 4, hv => cases hv; exact h4
  | j + 5, hv => simp at hv
 ·
  match j, hj with
  | 0, _ => exact z0
  | 1, _ => exact z1
  | 2, _ => exact z2
  | 3, _ => exact z3
  | 4, _ => exact z4
  | j + 5, hj => simp at hj; omega
theorem Bx.of8 {w : World} {b : Nat} {v0 v1 v2 v3 v4 v5 v6 v7 : Value} (h0 : w.cell? ⟨b, 0, none⟩ = some v0) (h1 : w.cell? ⟨b, 1, none⟩ = some v1) (h2 : w.cell? ⟨b, 2, none⟩ = some v2) (h3 : w.cell? ⟨b, 3, none⟩ = some v3) (h4 : w.cell? ⟨b, 4, none⟩ = some v4) (h5 : w.cell? ⟨b, 5, none⟩ = some v5) (h6 : w.cell? ⟨b, 6, none⟩ = some v6) (h7 : w.cell? ⟨b, 7, none⟩ = some v7) (z0 : w.frozen? ⟨b, 0, none⟩ = false) (z1 : w.frozen? ⟨b, 1, none⟩ = false) (z2 : w.frozen? ⟨b, 2, none⟩ = false) (z3 : w.frozen? ⟨b, 3, none⟩ = false) (z4 : w.frozen? ⟨b, 4, none⟩ = false) (z5 : w.frozen? ⟨b, 5, none⟩ = false) (z6 : w.frozen? ⟨b, 6, none⟩ = false) (z7 : w.frozen? ⟨b, 7, none⟩ = false) : Bx w b [v0, v1, v2, v3, v4, v5, v6, v7] := by
 refine ⟨fun j v hv => ?_, fun j hj => ?_⟩
 ·
  rw [Nat.zero_add]
  match j, hv with
  | 0, hv => cases hv; exact h0
  | 1, hv => cases hv; exact h1
  | 2, hv => cases hv; exact h2
  | 3, hv => cases hv; exact h3
  | 4, hv => cases hv; exact h4
  | 5, hv => cases hv; exact h5
  | 6, hv => cases hv; exact h6
  | 7, hv => cases hv; exact h7
  | j + 8, hv => simp at hv
 ·
  match j, hj with
  | 0, _ => exact z0
  | 1, _ => exact z1
  | 2, _ => exact z2
  | 3, _ => exact z3
  | 4, _ => exact z4
  | 5, _ => exact z5
  | 6, _ => exact z6
  | 7, _ => exact z7
  | j + 8, hj => simp at hj; omega
theorem Save.unalloc {M : Nat} {a w : World} {o : Obj} (h : Save M (a.alloc o) (w.alloc o)) : Save M a w := by
 have hs : w.heap.size = a.heap.size := by have := h.size; simpa using this
 refine ⟨h.os, h.tape, h.output, hs, fun k hk => ?_⟩
 have hb : (w.heap.push o)[k]? = (a.heap.push o)[k]? := h.block k hk
 rcases Nat.lt_or_ge k a.heap.size with hl | hl
 ·
  rw [Array.getElem?_push_lt (by omega), Array.getElem?_push_lt (by omega)] at hb
  rw [Array.getElem?_eq_getElem (by omega), Array.getElem?_eq_getElem (by omega)]
  exact hb
 ·
  rw [Array.getElem?_eq_none (by omega), Array.getElem?_eq_none (by omega)]
theorem sv : (∀ (M : Nat) (a w : World) (j : Nat) (u : Value), Save M a (w.setCell ⟨M, j, none⟩ u) ↔ Save M a w) ∧ (∀ (M : Nat) (a w : World) (o : Obj), Save M (a.alloc o) (w.alloc o) ↔ Save M a w) ∧ (∀ (M : Nat) (w : World), Save M w w ↔ True) :=
 ⟨fun M a w j u => ⟨fun h => ⟨h.os, h.tape, h.output, by have := h.size; simpa [World.setCell] using this, fun k hk => (Below.heap_setCell _ _ _ _ hk).symm.trans (h.block k hk)⟩, fun h => h.set j u⟩, fun M a w o => ⟨Save.unalloc, fun h => h.alloc2 o⟩, fun M w => ⟨fun _ => trivial, fun _ => Save.refl _ _⟩⟩
theorem sx : (∀ (a : Act) (d : Tmp) (v : Value), a.put (some d) v = { a with tmps := a.tmps.setIfInBounds d v }) ∧ (∀ (a : Act) (v : Value), a.put none v = a) ∧ (∀ (l : List Value) (i : Nat) (x : Value), l.toArray.setIfInBounds i x = (l.set i x).toArray) ∧ (∀ (l : List Bool) (i : Nat) (x : Bool), l.toArray.setIfInBounds i x = (l.set i x).toArray) ∧
  (∀ (a : Value) (l : List Value) (x : Value), (a :: l).set 0 x = x :: l) ∧ (∀ (a : Value) (l : List Value) (n : Nat) (x : Value), (a :: l).set (n + 1) x = a :: l.set n x) ∧ (∀ (a : Bool) (l : List Bool) (x : Bool), (a :: l).set 0 x = x :: l) ∧ (∀ (a : Bool) (l : List Bool) (n : Nat) (x : Bool), (a :: l).set (n + 1) x = a :: l.set n x) ∧
  (∀ (l : List Oper) (i : Nat) (h : i < l.toArray.size), l.toArray[i] = l[i]'(by simpa using h)) ∧ (∀ (a : Oper) (l : List Oper) (n : Nat) (h : n + 1 < (a :: l).length), (a :: l)[n + 1] = l[n]'(by simpa using h)) ∧ (∀ (a : Oper) (l : List Oper) (h : 0 < (a :: l).length), (a :: l)[0] = a) :=
 ⟨fun _ _ _ => rfl, fun _ _ => rfl, fun _ _ _ => by simp, fun _ _ _ => by simp, fun _ _ _ => rfl, fun _ _ _ _ => rfl, fun _ _ _ => rfl, fun _ _ _ _ => rfl, fun _ _ _ => rfl, fun _ _ _ _ => rfl, fun _ _ _ => rfl⟩
theorem hid {p : Prop} (h : p) : Hid p := h
theorem bl_new (w : World) (o : Obj) : Below w.heap.size w (w.alloc o) := bl_alloc (Below.refl _ _) o
theorem bl_drew (w : World) : Below w.heap.size w w.drew := (Below.refl _ _).drew
theorem Bes.atl {B m n s : Nat} {w w' : World} {v : Value} {l : List Nd} (h : Bes B w w') (hm : B < m) (ha : AtL w (Ge m) n s v l) : AtL w' (Ge m) n s v l := ha.move (h.keeps hm) (fun _ h => h)
theorem Bes.keepx {B m L : Nat} {w w' : World} (h : Bes B w w') (hm : B < m) : Keeps (Gx m L) w w' := fun b o v hb hv => h.keeps hm b o v hb.1 hv
theorem Bes.atlx {B m n s L : Nat} {w w' : World} {v : Value} {l : List Nd} (h : Bes B w w') (hm : B < m) (ha : AtL w (Gx m L) n s v l) : AtL w' (Gx m L) n s v l := ha.move (h.keepx hm) (fun _ h => h)
theorem Save.atlx {m n s L : Nat} {w w' : World} {v : Value} {l : List Nd} (h : Save L w w') (ha : AtL w (Gx m L) n s v l) : AtL w' (Gx m L) n s v l := ha.move (Keeps.of_save h (fun hb => hb.2 rfl)) (fun _ h => h)
theorem Bes.tx {B m : Nat} {w w' : World} {v : Value} {l : List ByteArray} {p : Prop} (h : Bes B w w') (hm : B < m) (ha : Tx w (Ge m) v l ∧ p) : Tx w' (Ge m) v l ∧ p := ⟨ha.1.move (h.keeps hm) (fun _ h => h), ha.2⟩
theorem Bes.txx {B m L : Nat} {w w' : World} {v : Value} {l : List ByteArray} {p : Prop} (h : Bes B w w') (hm : B < m) (ha : Tx w (Gx m L) v l ∧ p) : Tx w' (Gx m L) v l ∧ p := ⟨ha.1.move (h.keepx hm) (fun _ h => h), ha.2⟩
theorem Save.txx {m L : Nat} {w w' : World} {v : Value} {l : List ByteArray} {p : Prop} (h : Save L w w') (ha : Tx w (Gx m L) v l ∧ p) : Tx w' (Gx m L) v l ∧ p := ⟨ha.1.move (Keeps.of_save h (fun hb => hb.2 rfl)) (fun _ h => h), ha.2⟩
theorem Save.one (w : World) (M j : Nat) (u : Value) : Save M w (w.setCell ⟨M, j, none⟩ u) := (Save.refl _ _).set _ _
theorem Tx.gx {w : World} {m L : Nat} {v : Value} {xs : List ByteArray} (h : Tx w (Ge m) v xs) (hL : w.heap.size ≤ L) : Tx w (Gx m L) v xs :=
 h.lt.move (Keeps.refl _ _) (fun b hb => ⟨hb.1, by have : b < w.heap.size := hb.2; omega⟩)
theorem AtL.cast {w : World} {K : Nat → Prop} {n s : Nat} {v u : Value} {l : List Nd} (h : AtL w K n s v l) (hv : v = u) : AtL w K n s u l := hv ▸ h
theorem Gr.isT_hd {x : List UInt8} {ts : Gr.Ts} (h : Gr.isT x ts = true) : Gr.hd ts = ⟨x.toArray⟩ := by
 cases ts with
 | nil => cases h
 | cons t r =>
  unfold Gr.isT at h
  rw [Bool.and_eq_true, decide_eq_true_iff] at h
  show (⟨t.text.toArray⟩ : ByteArray) = _
  rw [h.2]
end Go.Proofs.YtjebepnphoeiaabGreatDoor
