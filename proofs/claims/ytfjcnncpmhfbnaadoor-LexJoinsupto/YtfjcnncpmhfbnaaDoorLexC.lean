/- Plain mathematics of tokens, reckoned: the tokens of two closed texts. -/
import Derived.Test.YtfjcnncpmhfbnaaDoorLexQ
import Derived.KernelRfl
namespace Go.Proofs.YtfjcnncpmhfbnaaDoor
set_option linter.unusedVariables false

def Lx.skipF : Nat → List UInt8 → List UInt8 × Bool
  | 0, l => (l, true)
  | N + 1, [] => ([], true)
  | N + 1, c :: t =>
    if Lx.blank (c.toNat : Int) then Lx.skipF N t
    else if Lx.opens (c :: t) then
      match Lx.rem (c :: t) 0 with
      | none => (c :: t, false)
      | some r => Lx.skipF N r
    else (c :: t, true)
theorem Lx.skipF_eq : ∀ (N : Nat) (l : List UInt8), l.length < N → Lx.skip l = Lx.skipF N l
  | 0, l, h => by omega
  | N + 1, [], h => Lx.skip_nil
  | N + 1, c :: t, h => by
    unfold Lx.skipF
    cases hb : Lx.blank (c.toNat : Int) with
    | true => rw [if_pos rfl, Lx.skip_blank hb, Lx.skipF_eq N t (by simp at h; omega)]
    | false =>
      rw [if_neg (by simp)]
      cases ho : Lx.opens (c :: t) with
      | false => rw [if_neg (by simp), Lx.skip_stop hb ho]
      | true =>
        rw [if_pos rfl]
        cases hR : Lx.rem (c :: t) 0 with
        | none => exact Lx.skip_open ho hR
        | some r =>
          have := Lx.rem_lt _ _ _ hR
          rw [Lx.skip_rem ho hR, Lx.skipF_eq N r (by simp at h this; omega)]
def Lx.lexF : Nat → List UInt8 → Lx.Res
  | c, l =>
  let s := Lx.skipF (l.length + 1) l
  if s.2 = false then .bad s.1.length 10
  else if s.1 = [] then .good []
  else match Lx.next s.1 with
    | .bad e => .bad s.1.length e
    | .good k n => match c with
      | 0 => .bad s.1.length 3
      | c + 1 => (Lx.lexF c (s.1.drop (Lx.text s.1).length)).put ⟨k, Lx.text s.1, n, s.1.length⟩
theorem Lx.lexF_unf (c : Nat) (l : List UInt8) : Lx.lexF c l = if (Lx.skipF (l.length + 1) l).2 = false then .bad (Lx.skipF (l.length + 1) l).1.length 10
  else if (Lx.skipF (l.length + 1) l).1 = [] then .good []
  else match Lx.next (Lx.skipF (l.length + 1) l).1 with
    | .bad e => .bad (Lx.skipF (l.length + 1) l).1.length e
    | .good k n => match c with
      | 0 => .bad (Lx.skipF (l.length + 1) l).1.length 3
      | c + 1 => (Lx.lexF c ((Lx.skipF (l.length + 1) l).1.drop (Lx.text (Lx.skipF (l.length + 1) l).1).length)).put ⟨k, Lx.text (Lx.skipF (l.length + 1) l).1, n, (Lx.skipF (l.length + 1) l).1.length⟩ := by cases c <;> rw [Lx.lexF]
theorem Lx.lexF_eq : ∀ (c : Nat) (l : List UInt8), Lx.lexN c l = Lx.lexF c l
  | 0, l => by
    rw [Lx.lexN_eq, Lx.skipF_eq (l.length + 1) l (by omega), Lx.lexF_unf]
    generalize Lx.skipF (l.length + 1) l = S
    by_cases h1 : S.2 = false
    · rw [if_pos h1, if_pos h1]
    · rw [if_neg h1, if_neg h1]
      by_cases h2 : S.1 = []
      · rw [if_pos h2, if_pos h2]
      · rw [if_neg h2, if_neg h2]
        cases Lx.next S.1 with
        | bad e => rfl
        | good k n => rfl
  | c + 1, l => by
    rw [Lx.lexN_eq, Lx.skipF_eq (l.length + 1) l (by omega), Lx.lexF_unf]
    generalize Lx.skipF (l.length + 1) l = S
    by_cases h1 : S.2 = false
    · rw [if_pos h1, if_pos h1]
    · rw [if_neg h1, if_neg h1]
      by_cases h2 : S.1 = []
      · rw [if_pos h2, if_pos h2]
      · rw [if_neg h2, if_neg h2]
        cases Lx.next S.1 with
        | bad e => rfl
        | good k n => show Lx.Res.put _ (Lx.lexN c _) = Lx.Res.put _ (Lx.lexF c _); rw [Lx.lexF_eq c]

def Lx.al1 : List UInt8 := [118, 97, 108, 32, 120, 32, 61, 32, 70, 40, 77, 41, 46, 121, 32, 40, 42, 32, 114, 32, 40, 42, 32, 115, 32, 42, 41, 32, 42, 41]
def Lx.al2 : List UInt8 := [97, 32, 35, 32, 98]
def Lx.al1T : List Lx.Tok := [⟨3, [118, 97, 108], 0, 30⟩, ⟨1, [120], 0, 26⟩, ⟨6, [61], 0, 24⟩, ⟨2, [70], 0, 22⟩, ⟨6, [40], 0, 21⟩, ⟨2, [77], 0, 20⟩, ⟨6, [41], 0, 19⟩, ⟨6, [46], 0, 18⟩, ⟨1, [121], 0, 17⟩]
theorem Lx.al1_lex : Lx.lex Lx.al1 = .good Lx.al1T := by
  have h : Lx.lexN 9 Lx.al1 = .good Lx.al1T := by rw [Lx.lexF_eq]; kernel_rfl
  unfold Lx.lex
  rw [if_neg (by decide)]
  exact Lx.lexN_mono h (by decide)
theorem Lx.al2_lex : Lx.lex Lx.al2 = .bad 3 10 := by
  have h : Lx.lexN 1024 Lx.al2 = .bad 3 10 := by rw [Lx.lexF_eq]; kernel_rfl
  unfold Lx.lex
  rw [if_neg (by decide)]
  exact h
end Go.Proofs.YtfjcnncpmhfbnaaDoor
