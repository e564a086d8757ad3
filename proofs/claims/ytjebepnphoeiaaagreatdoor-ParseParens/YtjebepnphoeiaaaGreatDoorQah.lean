/- Pieces: GrR. -/
import Derived.Test.YtjebepnphoeiaaaGreatDoorQag
namespace Go.Proofs.YtjebepnphoeiaaaGreatDoor
set_option linter.unusedVariables false

def Gr.Mo (a b : Gr.Res) : Prop := a = .out ∨ b = a
theorem Gr.Mo.bind {a b : Gr.Res} {k l : Nd → Gr.Ts → Gr.Res} (h : Gr.Mo a b) (hk : ∀ v r, Gr.Mo (k v r) (l v r)) : Gr.Mo (a.bind k) (b.bind l) := by
 rcases h with rfl | rfl
 ·
  exact .inl rfl
 ·
  cases b with
  | ok v r => exact hk v r
  | bad r e => exact .inr rfl
  | out => exact .inr rfl
theorem Gr.Mo.pbind {a : Gr.PRes} {k l : List ByteArray → Bool → Gr.Ts → Gr.Res} (hk : ∀ p b r, Gr.Mo (k p b r) (l p b r)) : Gr.Mo (a.bind k) (a.bind l) := by
 cases a with
 | ok p b r => exact hk p b r
 | bad r e => exact .inr rfl
theorem Gr.Mo.need {x : List UInt8} {ts : Gr.Ts} {k l : Gr.Ts → Gr.Res} (hk : Gr.Mo (k ts.tail) (l ts.tail)) : Gr.Mo (Gr.need x ts k) (Gr.need x ts l) := by
 unfold Gr.need
 split
 ·
  exact hk
 ·
  exact .inr rfl
theorem Gr.Mo.name {q : Nat} {ts : Gr.Ts} {k l : ByteArray → Gr.Ts → Gr.Res} (hk : ∀ s, Gr.Mo (k s ts.tail) (l s ts.tail)) : Gr.Mo (Gr.name q ts k) (Gr.name q ts l) := by
 unfold Gr.name
 split
 ·
  exact hk _
 ·
  exact .inr rfl
theorem Gr.Mo.ite {c : Prop} [Decidable c] {a b a2 b2 : Gr.Res} (h1 : Gr.Mo a a2) (h2 : Gr.Mo b b2) : Gr.Mo (if c then a else b) (if c then a2 else b2) := by
 split
 ·
  exact h1
 ·
  exact h2
theorem Gr.more1 : ∀ (f : Nat) (nt : Gr.Nt) (ts : Gr.Ts), Gr.Mo (Gr.g f nt ts) (Gr.g (f + 1) nt ts)
 | 0, nt, ts => .inl rfl
 | f + 1, nt, ts => by
  have use : ∀ (nt' : Gr.Nt) (ts' : Gr.Ts), Gr.Mo (Gr.g f nt' ts') (Gr.g (f + 1) nt' ts') := Gr.more1 f
  rw [Gr.g.eq_def (f + 1), Gr.g.eq_def (f + 1 + 1)]
  cases nt <;> simp only
  all_goals repeat' first
   | exact .inr rfl
   | exact use _ _
   | (refine Gr.Mo.need ?_)
   | (refine Gr.Mo.name fun _ => ?_)
   | (refine Gr.Mo.ite ?_ ?_)
   | (refine Gr.Mo.pbind fun _ _ _ => ?_)
   | (refine Gr.Mo.bind (use _ _) fun _ _ => ?_)
theorem Gr.more {f f2 : Nat} {nt : Gr.Nt} {ts : Gr.Ts} (h : Gr.g f nt ts ≠ .out) (hf : f ≤ f2) : Gr.g f2 nt ts = Gr.g f nt ts := by
  induction f2 with
  | zero => obtain rfl : f = 0 := by omega
            rfl
  | succ f2 ih =>
    by_cases he : f = f2 + 1
    · rw [he]
    · have h1 := ih (by omega)
      rcases Gr.more1 f2 nt ts with h2 | h2
      · exact absurd (h1 ▸ h2) h
      · rw [h2, h1]

def Gr.Like (a b : Gr.Ts) : Prop := a.map (fun t => (t.kind, t.text, t.n)) = b.map (fun t => (t.kind, t.text, t.n))
theorem Gr.Like.len {a b : Gr.Ts} (h : Gr.Like a b) : a.length = b.length := by have := congrArg List.length h; simpa using this
theorem Gr.Like.cases {a b : Gr.Ts} (h : Gr.Like a b) : (a = [] ∧ b = []) ∨ ∃ t r u q, a = t :: r ∧ b = u :: q ∧ t.kind = u.kind ∧ t.text = u.text ∧ t.n = u.n ∧ Gr.Like r q := by
 cases a with
 | nil => cases b with
  | nil => exact .inl ⟨rfl, rfl⟩
  | cons u q => cases h
 | cons t r => cases b with
  | nil => cases h
  | cons u q =>
   unfold Gr.Like at h
   simp only [List.map_cons, List.cons.injEq, Prod.mk.injEq] at h
   exact .inr ⟨t, r, u, q, rfl, rfl, h.1.1, h.1.2.1, h.1.2.2, h.2⟩
theorem Gr.Like.refl (a : Gr.Ts) : Gr.Like a a := rfl
theorem Gr.Like.isT {a b : Gr.Ts} (h : Gr.Like a b) (x : List UInt8) : Gr.isT x a = Gr.isT x b := by
 rcases h.cases with ⟨rfl, rfl⟩ | ⟨t, r, u, q, rfl, rfl, h1, h2, h3, -⟩
 ·
  rfl
 ·
  simp only [Gr.isT, h1, h2]
theorem Gr.Like.kd {a b : Gr.Ts} (h : Gr.Like a b) : Gr.kd a = Gr.kd b := by
 rcases h.cases with ⟨rfl, rfl⟩ | ⟨t, r, u, q, rfl, rfl, h1, h2, h3, -⟩
 ·
  rfl
 ·
  exact h1
theorem Gr.Like.hd {a b : Gr.Ts} (h : Gr.Like a b) : Gr.hd a = Gr.hd b := by
 rcases h.cases with ⟨rfl, rfl⟩ | ⟨t, r, u, q, rfl, rfl, h1, h2, h3, -⟩
 ·
  rfl
 ·
  simp only [Gr.hd, Gr.tx, h2]
theorem Gr.Like.hn {a b : Gr.Ts} (h : Gr.Like a b) : Gr.hn a = Gr.hn b := by
 rcases h.cases with ⟨rfl, rfl⟩ | ⟨t, r, u, q, rfl, rfl, h1, h2, h3, -⟩
 ·
  rfl
 ·
  exact h3
theorem Gr.Like.tail {a b : Gr.Ts} (h : Gr.Like a b) : Gr.Like a.tail b.tail := by
 rcases h.cases with ⟨rfl, rfl⟩ | ⟨t, r, u, q, rfl, rfl, h1, h2, h3, h4⟩
 ·
  rfl
 ·
  exact h4
theorem Gr.Like.begE {a b : Gr.Ts} (h : Gr.Like a b) : Gr.begE a = Gr.begE b := by unfold Gr.begE; simp only [h.kd, h.isT]
theorem Gr.Like.begP {a b : Gr.Ts} (h : Gr.Like a b) : Gr.begP a = Gr.begP b := by unfold Gr.begP; simp only [h.kd, h.isT]
theorem Gr.Like.lows : ∀ {a b : Gr.Ts}, Gr.Like a b → (Gr.lows a).1 = (Gr.lows b).1 ∧ Gr.Like (Gr.lows a).2 (Gr.lows b).2
 | [], b, h => by
  rcases h.cases with ⟨-, rfl⟩ | ⟨t, r, u, q, h0, -⟩
  ·
   exact ⟨rfl, rfl⟩
  ·
   cases h0
 | t :: r, b, h => by
  rcases h.cases with ⟨h0, -⟩ | ⟨t, r, u, q, h0, rfl, h1, h2, h3, h4⟩
  ·
   cases h0
  ·
   cases h0
   have ih := Gr.Like.lows h4
   unfold Gr.lows
   rw [h1]
   split
   ·
    exact ⟨by rw [ih.1]; unfold Gr.tx; rw [h2], ih.2⟩
   ·
    exact ⟨rfl, h⟩
def Gr.Rl : Gr.Res → Gr.Res → Prop
 | .ok v r, .ok u q => v = u ∧ Gr.Like r q
 | .bad r e, .bad q c => e = c ∧ Gr.Like r q
 | .out, .out => True
 | _, _ => False
theorem Gr.Rl.bind {a b : Gr.Res} {k l : Nd → Gr.Ts → Gr.Res} (h : Gr.Rl a b) (hk : ∀ v r q, Gr.Like r q → Gr.Rl (k v r) (l v q)) : Gr.Rl (a.bind k) (b.bind l) := by
 cases a <;> cases b <;> first | exact h.elim | skip
 ·
  obtain ⟨rfl, h2⟩ := h; exact hk _ _ _ h2
 ·
  exact h
 ·
  exact h
def Gr.PRl : Gr.PRes → Gr.PRes → Prop
 | .ok p b r, .ok p2 b2 q => p = p2 ∧ b = b2 ∧ Gr.Like r q
 | .bad r e, .bad q c => e = c ∧ Gr.Like r q
 | _, _ => False
theorem Gr.PRl.bind {a b : Gr.PRes} {k l : List ByteArray → Bool → Gr.Ts → Gr.Res} (h : Gr.PRl a b) (hk : ∀ p c r q, Gr.Like r q → Gr.Rl (k p c r) (l p c q)) : Gr.Rl (a.bind k) (b.bind l) := by
 cases a <;> cases b <;> first | exact h.elim | skip
 ·
  obtain ⟨rfl, rfl, h2⟩ := h; exact hk _ _ _ _ h2
 ·
  exact h
theorem Gr.Rl.need {x : List UInt8} {a b : Gr.Ts} {k l : Gr.Ts → Gr.Res} (h : Gr.Like a b) (hk : Gr.Like a.tail b.tail → Gr.Rl (k a.tail) (l b.tail)) : Gr.Rl (Gr.need x a k) (Gr.need x b l) := by
 unfold Gr.need
 rw [h.isT]
 split
 ·
  exact hk h.tail
 ·
  exact ⟨rfl, h⟩
theorem Gr.Rl.name {n : Nat} {a b : Gr.Ts} {k l : ByteArray → Gr.Ts → Gr.Res} (h : Gr.Like a b) (hk : ∀ s, Gr.Like a.tail b.tail → Gr.Rl (k s a.tail) (l s b.tail)) : Gr.Rl (Gr.name n a k) (Gr.name n b l) := by
 unfold Gr.name
 rw [h.kd, h.hd]
 split
 ·
  exact hk _ h.tail
 ·
  exact ⟨rfl, h⟩
theorem Gr.Rl.ite {c d : Prop} [Decidable c] [Decidable d] {a b a2 b2 : Gr.Res} (hc : c = d) (h1 : Gr.Rl a a2) (h2 : Gr.Rl b b2) : Gr.Rl (if c then a else b) (if d then a2 else b2) := by
 subst hc
 by_cases h : c
 ·
  rw [if_pos h, if_pos h]; exact h1
 ·
  rw [if_neg h, if_neg h]; exact h2
theorem Gr.Rl.path (lo up : Bool) {fa fb : Gr.Ts} (hf : Gr.Like fa fb) : ∀ (k : Nat) {a b : Gr.Ts} (acc : List ByteArray), Gr.Like a b → Gr.PRl (Gr.path lo up fa k a acc) (Gr.path lo up fb k b acc)
 | k, a, b, acc, h => by
  unfold Gr.path
  rw [h.kd]
  split
  ·
   exact ⟨rfl, h⟩
  ·
   cases k with
   | zero => exact ⟨rfl, hf⟩
   | succ k =>
    simp only
    rw [h.tail.isT, h.hd]
    split
    ·
     exact Gr.Rl.path lo up hf k _ h.tail.tail
    ·
     split
     ·
      exact ⟨rfl, rfl, h.tail⟩
     ·
      exact ⟨rfl, h.tail⟩
theorem Gr.like : ∀ (f : Nat) (nt : Gr.Nt) (a b : Gr.Ts), Gr.Like a b → Gr.Rl (Gr.g f nt a) (Gr.g f nt b)
 | 0, nt, a, b, h => trivial
 | f + 1, nt, a, b, h => by
  have use : ∀ (nt' : Gr.Nt) (a b : Gr.Ts), Gr.Like a b → Gr.Rl (Gr.g f nt' a) (Gr.g f nt' b) := Gr.like f
  rw [Gr.g.eq_def (f + 1) nt a, Gr.g.eq_def (f + 1) nt b]
  cases nt <;> simp only [h.hd, h.hn, h.kd, h.begE, h.begP]
  all_goals repeat' first
   | assumption
   | exact ⟨rfl, Gr.Like.tail (by assumption)⟩
   | exact ⟨rfl, by assumption⟩
   | (refine use _ _ _ (by assumption))
   | (refine use _ _ _ (Gr.Like.tail (by assumption)))
   | (refine Gr.Rl.need (by assumption) fun _ => ?_)
   | (refine Gr.Rl.name (Gr.Like.tail (by assumption)) fun _ _ => ?_)
   | (refine Gr.Rl.name (by assumption) fun _ _ => ?_)
   | (refine Gr.Rl.ite rfl ?_ ?_)
   | (refine Gr.Rl.ite (by rw [Gr.Like.isT h, Gr.Like.isT h]) ?_ ?_)
   | (refine Gr.Rl.ite (by rw [Gr.Like.isT (by assumption)]) ?_ ?_)
   | (refine Gr.Rl.ite (by rw [Gr.Like.begP (by assumption)]) ?_ ?_)
   | (refine Gr.PRl.bind (Gr.Rl.path _ _ (by assumption) _ _ (by assumption)) fun _ _ _ _ _ => ?_)
   | (refine Gr.Rl.bind (use _ _ _ (by assumption)) fun _ _ _ _ => ?_)
   | (refine Gr.Rl.bind (use _ _ _ (Gr.Like.tail (by assumption))) fun _ _ _ _ => ?_)
   | (rw [(Gr.Like.lows (by assumption)).1]; exact use _ _ _ (Gr.Like.lows (by assumption)).2)

structure Gr.Stop (z : Gr.Ts) : Prop where
 kind : Gr.kd z = 6
 text : ∀ x, Gr.isT x z = true → x = [41] ∨ x = [44]
theorem Gr.Stop.is {z : Gr.Ts} (h : Gr.Stop z) {x : List UInt8} (h1 : x ≠ [41]) (h2 : x ≠ [44]) (ts : Gr.Ts) : Gr.isT x (ts ++ z) = Gr.isT x ts := by
 cases ts with
 | cons t r => rfl
 | nil =>
  show Gr.isT x z = false
  cases h3 : Gr.isT x z with
  | false => rfl
  | true => rcases h.text x h3 with e | e <;> contradiction
theorem Gr.app_kd {z ts : Gr.Ts} (h : ts ≠ []) : Gr.kd (ts ++ z) = Gr.kd ts := by
 cases ts with
 | nil => exact absurd rfl h
 | cons t r => rfl
theorem Gr.app_isT {z ts : Gr.Ts} (h : ts ≠ []) (x : List UInt8) : Gr.isT x (ts ++ z) = Gr.isT x ts := by
 cases ts with
 | nil => exact absurd rfl h
 | cons t r => rfl
theorem Gr.app_hd {z ts : Gr.Ts} (h : ts ≠ []) : Gr.hd (ts ++ z) = Gr.hd ts := by
 cases ts with
 | nil => exact absurd rfl h
 | cons t r => rfl
theorem Gr.app_hn {z ts : Gr.Ts} (h : ts ≠ []) : Gr.hn (ts ++ z) = Gr.hn ts := by
 cases ts with
 | nil => exact absurd rfl h
 | cons t r => rfl
theorem Gr.app_tail {z ts : Gr.Ts} (h : ts ≠ []) : (ts ++ z).tail = ts.tail ++ z := by
 cases ts with
 | nil => exact absurd rfl h
 | cons t r => rfl
theorem Gr.Stop.begP {z : Gr.Ts} (h : Gr.Stop z) (ts : Gr.Ts) : Gr.begP (ts ++ z) = Gr.begP ts := by
 cases ts with
 | cons t r => rfl
 | nil =>
  have e : ∀ x, x ≠ [41] → x ≠ [44] → Gr.isT x z = false := fun x h1 h2 => h.is h1 h2 []
  show Gr.begP z = false
  unfold Gr.begP
  rw [h.kind, e _ (by decide) (by decide), e _ (by decide) (by decide), e _ (by decide) (by decide), e _ (by decide) (by decide)]
  decide
theorem Gr.Stop.begE {z : Gr.Ts} (h : Gr.Stop z) (ts : Gr.Ts) : Gr.begE (ts ++ z) = Gr.begE ts := by
 cases ts with
 | cons t r => rfl
 | nil =>
  have e : ∀ x, x ≠ [41] → x ≠ [44] → Gr.isT x z = false := fun x h1 h2 => h.is h1 h2 []
  show Gr.begE z = false
  unfold Gr.begE
  rw [h.kind, e _ (by decide) (by decide), e _ (by decide) (by decide), e _ (by decide) (by decide), e _ (by decide) (by decide), e _ (by decide) (by decide)]
  decide
def Gr.Ex (z : Gr.Ts) (a b : Gr.Res) : Prop := ∀ v r, a = .ok v r → b = .ok v (r ++ z)
theorem Gr.Ex.bind {z : Gr.Ts} {a b : Gr.Res} {k l : Nd → Gr.Ts → Gr.Res} (h : Gr.Ex z a b) (hk : ∀ v r, Gr.Ex z (k v r) (l v (r ++ z))) : Gr.Ex z (a.bind k) (b.bind l) := by
 cases a with
 | ok v r => rw [h v r rfl]; exact hk v r
 | bad r e => intro v r h; cases h
 | out => intro v r h; cases h
theorem Gr.Ex.bad {z : Gr.Ts} (r : Gr.Ts) (e : Int) (b : Gr.Res) : Gr.Ex z (.bad r e) b := fun v r h => by cases h
theorem Gr.Ex.ok {z : Gr.Ts} (v : Nd) (r : Gr.Ts) : Gr.Ex z (.ok v r) (.ok v (r ++ z)) := fun v r h => by cases h; rfl
def Gr.PEx (z : Gr.Ts) (a b : Gr.PRes) : Prop := ∀ p l r, a = .ok p l r → b = .ok p l (r ++ z)
theorem Gr.PEx.bind {z : Gr.Ts} {a b : Gr.PRes} {k l : List ByteArray → Bool → Gr.Ts → Gr.Res} (h : Gr.PEx z a b) (hk : ∀ p c r, Gr.Ex z (k p c r) (l p c (r ++ z))) : Gr.Ex z (a.bind k) (b.bind l) := by
 cases a with
 | ok p c r => rw [h p c r rfl]; exact hk p c r
 | bad r e => intro v r h; cases h
theorem Gr.Ex.need {z : Gr.Ts} {x : List UInt8} {ts : Gr.Ts} {k l : Gr.Ts → Gr.Res} (hk : Gr.Ex z (k ts.tail) (l (ts.tail ++ z))) : Gr.Ex z (Gr.need x ts k) (Gr.need x (ts ++ z) l) := by
 cases ts with
 | nil => exact Gr.Ex.bad _ _ _
 | cons t r =>
  unfold Gr.need
  rw [Gr.app_isT (by simp)]
  split
  ·
   exact hk
  ·
   exact Gr.Ex.bad _ _ _
theorem Gr.Ex.name {z : Gr.Ts} {q : Nat} {ts : Gr.Ts} {k l : ByteArray → Gr.Ts → Gr.Res} (hk : ∀ s, Gr.Ex z (k s ts.tail) (l s (ts.tail ++ z))) : Gr.Ex z (Gr.name (q + 1) ts k) (Gr.name (q + 1) (ts ++ z) l) := by
 cases ts with
 | nil => exact Gr.Ex.bad _ _ _
 | cons t r =>
  unfold Gr.name
  rw [Gr.app_kd (by simp), Gr.app_hd (by simp)]
  split
  ·
   exact hk _
  ·
   exact Gr.Ex.bad _ _ _
theorem Gr.Ex.ite {z : Gr.Ts} {c d : Prop} [Decidable c] [Decidable d] {a b a2 b2 : Gr.Res} (hc : d = c) (h1 : Gr.Ex z a a2) (h2 : Gr.Ex z b b2) : Gr.Ex z (if c then a else b) (if d then a2 else b2) := by
 subst hc
 by_cases h : d
 ·
  rw [if_pos h, if_pos h]; exact h1
 ·
  rw [if_neg h, if_neg h]; exact h2
theorem Gr.Ex.path {z : Gr.Ts} (hz : Gr.Stop z) (lo up : Bool) (fa fb : Gr.Ts) : ∀ (k : Nat) (ts : Gr.Ts) (acc : List ByteArray), Gr.PEx z (Gr.path lo up fa k ts acc) (Gr.path lo up fb k (ts ++ z) acc)
 | k, ts, acc => by
  cases ts with
  | nil => intro p l r h; unfold Gr.path at h; simp [Gr.kd] at h
  | cons t r =>
   unfold Gr.path
   rw [Gr.app_kd (by simp)]
   split
   ·
    intro p l r h; cases h
   ·
    cases k with
    | zero => intro p l r h; cases h
    | succ k =>
     simp only
     rw [Gr.app_tail (by simp), Gr.app_hd (by simp), hz.is (by decide) (by decide)]
     split
     ·
      next h1 =>
      rw [Bool.and_eq_true] at h1
      have hne : (t :: r).tail ≠ [] := fun e => by rw [e] at h1; exact absurd h1.2 (by decide)
      rw [Gr.app_tail hne]
      exact Gr.Ex.path hz lo up fa fb k _ _
     ·
      split
      ·
       intro p l r2 h; cases h; rfl
      ·
       intro p l r h; cases h
theorem Gr.Stop.lows {z : Gr.Ts} (h : Gr.Stop z) : ∀ (ts : Gr.Ts), Gr.lows (ts ++ z) = ((Gr.lows ts).1, (Gr.lows ts).2 ++ z)
 | [] => by
  show Gr.lows z = ([], z)
  cases z with
  | nil => rfl
  | cons t r =>
   have hk : t.kind = 6 := h.kind
   unfold Gr.lows
   rw [if_neg (by omega)]
 | t :: r => by
  have ih := Gr.Stop.lows h r
  show Gr.lows (t :: (r ++ z)) = _
  unfold Gr.lows
  rw [ih]
  split <;> rfl
theorem Gr.isT_tail {x : List UInt8} {ts : Gr.Ts} (h : Gr.isT x ts = true) : ts ≠ [] := by
 intro e
 subst e
 cases h
theorem Gr.Ex.iteN {z : Gr.Ts} (hz : Gr.Stop z) {x : List UInt8} {ts : Gr.Ts} {a b a2 b2 : Gr.Res} (hx : x ≠ [41]) (hy : x ≠ [44]) (h1 : ts ≠ [] → Gr.Ex z a a2) (h2 : Gr.Ex z b b2) : Gr.Ex z (if Gr.isT x ts = true then a else b) (if Gr.isT x (ts ++ z) = true then a2 else b2) := by
 rw [hz.is hx hy]
 split
 ·
  next h => exact h1 (Gr.isT_tail h)
 ·
  exact h2
theorem Gr.Ex.iteE {z : Gr.Ts} (hz : Gr.Stop z) {ts : Gr.Ts} {a b a2 b2 : Gr.Res} (h1 : Gr.Ex z a a2) (h2 : Gr.Ex z b b2) : Gr.Ex z (if Gr.begE ts = true then a else b) (if Gr.begE (ts ++ z) = true then a2 else b2) := by
 rw [hz.begE]; exact Gr.Ex.ite rfl h1 h2
theorem Gr.Ex.iteP {z : Gr.Ts} (hz : Gr.Stop z) {ts : Gr.Ts} {a b a2 b2 : Gr.Res} (h1 : Gr.Ex z a a2) (h2 : Gr.Ex z b b2) : Gr.Ex z (if Gr.begP ts = true then a else b) (if Gr.begP (ts ++ z) = true then a2 else b2) := by
 rw [hz.begP]; exact Gr.Ex.ite rfl h1 h2
theorem Gr.none_ok {f : Nat} {nt : Gr.Nt} (hl : nt.least = 1) {v : Nd} {r : Gr.Ts} : Gr.g f nt [] ≠ .ok v r := by
 intro h
 have h1 := Gr.fine (f + (nt.rank + 1)) nt [] (by simp; omega)
 rw [Gr.more (by rw [h]; simp) (by omega), h, hl] at h1
 have : r.length + 1 ≤ 0 := h1
 omega
theorem Gr.Ex.comma {z : Gr.Ts} {x y : List UInt8} {ts : Gr.Ts} {a a2 : Gr.Res} {k l : Gr.Ts → Gr.Res} (h1 : ts ≠ [] → Gr.Ex z a a2) (hk : Gr.Ex z (k ts.tail) (l (ts.tail ++ z))) : Gr.Ex z (if Gr.isT x ts = true then a else Gr.need y ts k) (if Gr.isT x (ts ++ z) = true then a2 else Gr.need y (ts ++ z) l) := by
 cases ts with
 | nil => exact fun v r h => by cases h
 | cons t r =>
  rw [Gr.app_isT (by simp)]
  exact Gr.Ex.ite rfl (h1 (by simp)) (Gr.Ex.need hk)
theorem Gr.Ex.comma2 {z : Gr.Ts} {x x2 y : List UInt8} {ts : Gr.Ts} {a a2 b b2 : Gr.Res} {k l : Gr.Ts → Gr.Res} (h1 : ts ≠ [] → Gr.Ex z a a2) (h2 : ts ≠ [] → Gr.Ex z b b2) (hk : Gr.Ex z (k ts.tail) (l (ts.tail ++ z))) : Gr.Ex z (if Gr.isT x ts = true then a else if Gr.isT x2 ts = true then b else Gr.need y ts k) (if Gr.isT x (ts ++ z) = true then a2 else if Gr.isT x2 (ts ++ z) = true then b2 else Gr.need y (ts ++ z) l) := by
 cases ts with
 | nil => exact fun v r h => by cases h
 | cons t r =>
  rw [Gr.app_isT (by simp)]
  exact Gr.Ex.ite rfl (h1 (by simp)) (Gr.Ex.comma h2 hk)
set_option maxHeartbeats 1000000 in
theorem Gr.ext {z : Gr.Ts} (hz : Gr.Stop z) : ∀ (f : Nat) (nt : Gr.Nt) (ts : Gr.Ts), Gr.Ex z (Gr.g f nt ts) (Gr.g f nt (ts ++ z))
 | 0, nt, ts => fun v r h => by cases h
 | f + 1, nt, ts => by
  have use : ∀ (nt' : Gr.Nt) (ts : Gr.Ts), Gr.Ex z (Gr.g f nt' ts) (Gr.g f nt' (ts ++ z)) := Gr.ext hz f
  have use1 : ∀ (nt' : Gr.Nt) (ts : Gr.Ts), ts ≠ [] → Gr.Ex z (Gr.g f nt' ts.tail) (Gr.g f nt' (ts ++ z).tail) := fun nt' ts h => by rw [Gr.app_tail h]; exact use nt' _
  by_cases hl : nt.least = 1 ∧ ts = []
  ·
   obtain ⟨hl, rfl⟩ := hl
   exact fun v r h => absurd h (Gr.none_ok hl)
  rw [Gr.g.eq_def (f + 1) nt ts, Gr.g.eq_def (f + 1) nt (ts ++ z)]
  cases nt <;> simp only
  case pairGo | sumGo | prodGo | appGo =>
   clear hl
   repeat' first
    | exact use _ _
    | exact Gr.Ex.ok _ _
    | (refine Gr.Ex.iteN hz (by decide) (by decide) (fun _ => ?_) ?_)
    | (refine Gr.Ex.iteE hz ?_ ?_)
    | (refine Gr.Ex.bind (use _ _) fun _ _ => ?_)
    | (refine Gr.Ex.bind (use1 _ _ (by assumption)) fun _ _ => ?_)
  all_goals
   have hne : ts ≠ [] := fun e => hl ⟨rfl, e⟩
   clear hl
   try simp only [Gr.app_isT hne, Gr.app_kd hne, Gr.app_hd hne, Gr.app_hn hne, Gr.app_tail hne]
  all_goals repeat' first
   | exact use _ _
   | exact use1 _ _ (by assumption)
   | exact Gr.Ex.bad _ _ _
   | exact Gr.Ex.ok _ _
   | (refine Gr.Ex.need ?_)
   | (refine Gr.Ex.name fun _ => ?_)
   | (refine Gr.Ex.iteP hz ?_ ?_)
   | (refine Gr.Ex.iteE hz ?_ ?_)
   | (refine Gr.Ex.iteN hz (by decide) (by decide) (fun _ => ?_) ?_)
   | (refine Gr.Ex.comma (fun _ => ?_) ?_)
   | (refine Gr.Ex.comma2 (fun _ => ?_) (fun _ => ?_) ?_)
   | (refine Gr.Ex.ite rfl ?_ ?_)
   | (refine Gr.PEx.bind (Gr.Ex.path hz _ _ _ _ _ _ _) fun _ _ _ => ?_)
   | (refine Gr.Ex.bind (use _ _) fun _ _ => ?_)
   | (refine Gr.Ex.bind (use1 _ _ (by assumption)) fun _ _ => ?_)
   | (rw [hz.lows]; exact use _ _)
theorem Gr.ok_len {f : Nat} {nt : Gr.Nt} {ts r : Gr.Ts} {v : Nd} (h : Gr.g f nt ts = .ok v r) : r.length + nt.least ≤ ts.length := by
 have h1 := Gr.fine (f + (10 * ts.length + nt.rank + 1)) nt ts (by omega)
 rw [Gr.more (by rw [h]; simp) (by omega), h] at h1
 exact h1
end Go.Proofs.YtjebepnphoeiaaaGreatDoor
