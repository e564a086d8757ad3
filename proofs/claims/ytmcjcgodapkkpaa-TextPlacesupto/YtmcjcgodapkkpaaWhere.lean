/- What Where and Caret come to. -/
import Derived.Lib.Repeat
import Derived.Test.YtmcjcgodapkkpaaLineOf
import Derived.Test.YtmcjcgodapkkpaaShelf
namespace Go.Proofs.Ytmcjcgodapkkpaa
open Go.RowKit Go.Shelf
set_option linter.unusedVariables false

/-- The first line whose end is not ahead of k: its number and bounds. -/
def Tx.lineR : List (Nat × Nat) → Nat → Nat × Nat × Nat
  | [], _ => (0, 0, 0)
  | x :: r, k => if k ≤ x.2 then (0, x.1, x.2) else ((Tx.lineR r k).1 + 1, (Tx.lineR r k).2)

theorem Tx.lineR_eq : ∀ (q : List (Nat × Nat)) (x : Nat × Nat) (r : List (Nat × Nat)) (k : Nat), (∀ y, y ∈ q → y.2 < k) → k ≤ x.2 → Tx.lineR (q ++ x :: r) k = (q.length, x.1, x.2)
  | [], x, r, k, _, h => by simp [Tx.lineR, h]
  | y :: q, x, r, k, hq, h => by
    have hy := hq y (by simp)
    have ih := Tx.lineR_eq q x r k (fun z hz => hq z (by simp [hz])) h
    rw [List.cons_append, Tx.lineR, if_neg (by omega), ih]
    simp

/-- A line begins at the place or ahead of it. -/
theorem Tx.bnd_from : ∀ (l : List UInt8) (f i k : Nat) (q : List (Nat × Nat)) (x : Nat × Nat) (r : List (Nat × Nat)), Tx.bnd f i l = q ++ x :: r → f ≤ k → (∀ y, y ∈ q → y.2 < k) → x.1 ≤ k
  | [], f, i, k, q, x, r, e, hf, hq => by
    rw [Tx.bnd] at e
    cases q with
    | nil => simp at e; rw [← e.1]; exact hf
    | cons y q => simp at e
  | c :: l, f, i, k, q, x, r, e, hf, hq => by
    rw [Tx.bnd] at e
    split at e
    · cases q with
      | nil => simp at e; rw [← e.1]; exact hf
      | cons y q =>
        simp at e
        have hy := hq y (by simp)
        rw [← e.1] at hy
        exact Tx.bnd_from l (i + 1) (i + 1) k q x r e.2 (by simp at hy; omega) (fun z hz => hq z (by simp [hz]))
    · exact Tx.bnd_from l f (i + 1) k q x r e hf hq

def Tx.wl (s : ByteArray) (k : Nat) : Nat := (Tx.lineR (Tx.lines s) k).1
def Tx.wf (s : ByteArray) (k : Nat) : Nat := (Tx.lineR (Tx.lines s) k).2.1
def Tx.wt (s : ByteArray) (k : Nat) : Nat := (Tx.lineR (Tx.lines s) k).2.2

theorem Tx.w_eq {s : ByteArray} {k : Nat} {q r : List (Nat × Nat)} {x : Nat × Nat} (e : Tx.lines s = q ++ x :: r) (hq : ∀ y, y ∈ q → y.2 < k) (hx : k ≤ x.2) :
    Tx.wl s k = q.length ∧ Tx.wf s k = x.1 ∧ Tx.wt s k = x.2 := by
  unfold Tx.wl Tx.wf Tx.wt
  rw [e, Tx.lineR_eq q x r k hq hx]
  simp

theorem Tx.w_bounds {s : ByteArray} {k : Nat} {q r : List (Nat × Nat)} {x : Nat × Nat} (e : Tx.lines s = q ++ x :: r) (hq : ∀ y, y ∈ q → y.2 < k) (hx : k ≤ x.2) :
    x.1 ≤ k ∧ x.2 ≤ s.size ∧ q.length ≤ s.size := by
  have eL : s.data.toList.length = s.size := by rw [Array.length_toList]; rfl
  have h1 := Tx.bnd_from s.data.toList 0 0 k q x r e (Nat.zero_le _) hq
  have h2 := Tx.bnd_in s.data.toList 0 0 (Nat.le_refl _) x (by show x ∈ Tx.lines s; rw [e]; simp)
  have h3 := Tx.lines_length s
  rw [e] at h3
  simp at h3
  omega

theorem lineOf_fn (s : ByteArray) (k : Nat) (hs : s.size ≤ 2097152) (hk : k ≤ s.size) (w : World) :
    Calls Try.prog 23 #[.string s, .int .i64 k] w fun e W' => (e = .returned (.tuple #[.int .i64 (Tx.wl s k : Nat), .int .i64 (Tx.wf s k : Nat), .int .i64 (Tx.wt s k : Nat)]) ∧
      Tx.wf s k ≤ k ∧ k ≤ Tx.wt s k ∧ Tx.wt s k ≤ s.size ∧ Tx.wl s k ≤ s.size) ∧ Below w.heap.size w W' := by
  refine (lineOf_any s k hs hk w).mono ?_
  rintro e W' ⟨⟨q, x, r, e1, e2, e3, rfl⟩, hb⟩
  obtain ⟨h1, h2, h3⟩ := Tx.w_eq e1 e2 e3
  have h4 := Tx.w_bounds e1 e2 e3
  rw [h1, h2, h3]
  exact ⟨⟨rfl, h4.1, e3, h4.2.1, h4.2.2⟩, hb⟩

set_option maxHeartbeats 400000 in
theorem where_any (s : ByteArray) (i : Int) (hs : s.size ≤ 2097152) (w : World) :
    Calls Try.prog 8 #[.string s, .int .i64 i] w fun e W' => e = .returned (.tuple #[.int .i64 (Tx.wl s (Tx.at s.size i) : Nat), .int .i64 ((Tx.at s.size i : Nat) - (Tx.wf s (Tx.at s.size i) : Nat))]) ∧ Below w.heap.size w W' := by
  have ha : Tx.at s.size i ≤ s.size := by unfold Tx.at; omega
  go_enter Try.func8, Try.ntmps8
  go_wp2_with (first | (go_at_call 22; refine (within_any _ _ _).mono ?_; rintro e w' ⟨rfl, rfl⟩) | (go_at_call 23; refine (lineOf_fn s (Tx.at s.size i) hs ha _).mono ?_; rintro e w' ⟨⟨rfl, h1, h2, h3, h4⟩, hb⟩))
  go_ret2
  exact ⟨rfl, hb⟩

theorem repeatL_one (b : UInt8) : ∀ n, Lib.repeatL [b] n = List.replicate n b
  | 0 => by simp [Lib.repeatL]
  | n + 1 => by rw [Lib.repeatL, repeatL_one b n, List.replicate_succ]; simp

theorem rep_any (c : Int) (h0 : 0 ≤ c) (hc : c ≤ 2097152) (w : World) :
    Calls Try.prog 26 #[.string ⟨#[32]⟩, .int .i64 c] w fun e W' => e = .returned (.string ⟨(List.replicate c.toNat 32).toArray⟩) ∧ Below w.heap.size w W' := by
  obtain ⟨m, rfl⟩ := Int.eq_ofNat_of_zero_le h0
  refine (Try.strings_Repeat ⟨#[32]⟩ m w (by omega) (by show 1 * m ≤ _; omega)).mono ?_
  rintro e W' ⟨rfl, hb⟩
  refine ⟨?_, hb⟩
  rw [show (⟨#[32]⟩ : ByteArray).data.toList = [32] from rfl, repeatL_one, Int.toNat_natCast]

theorem wrap_small {x : Int} (h0 : 0 ≤ x) (h1 : x ≤ 2097152) : IntKind.i64.wrap x = x := by
  simp [IntKind.wrap, IntKind.bits]
  omega

set_option maxHeartbeats 1000000 in
theorem caret_any (s : ByteArray) (i : Int) (hs : s.size ≤ 2097152) (w : World) :
    Calls Try.prog 15 #[.string s, .int .i64 i] w fun e W' => (∃ t, e = .returned (.string t) ∧ t.data.toList = (s.extract (Tx.wf s (Tx.at s.size i)) (Tx.wt s (Tx.at s.size i))).data.toList ++ [10] ++ List.replicate (Tx.at s.size i - Tx.wf s (Tx.at s.size i)) 32 ++ [94]) ∧ Below w.heap.size w W' := by
  have ha : Tx.at s.size i ≤ s.size := by unfold Tx.at; omega
  go_enter Try.func15, Try.ntmps15
  go_wp2_with (first | (go_at_call 22; refine (within_any _ _ _).mono ?_; rintro e w' ⟨rfl, rfl⟩) | (go_at_call 23; refine (lineOf_fn s (Tx.at s.size i) hs ha _).mono ?_; rintro e w' ⟨⟨rfl, h1, h2, h3, h4⟩, hb⟩))
  have hwr : IntKind.i64.wrap ((Tx.at s.size i : Int) - (Tx.wf s (Tx.at s.size i) : Int)) = (Tx.at s.size i : Int) - (Tx.wf s (Tx.at s.size i) : Int) := wrap_small (by omega) (by omega)
  go_region_with (go_at_call 26; refine (rep_any _ (by omega) (by omega) _).mono ?_; rintro e w2 ⟨rfl, hb2⟩)
  all_goals go_wp2
  all_goals go_ret
  all_goals
    refine ⟨⟨_, rfl, by simp [ByteArray.data_append]⟩, ?_⟩
    exact (hb.trans (Below.drew (Below.refl _ _))).trans (hb2.mono hb.size)
end Go.Proofs.Ytmcjcgodapkkpaa
