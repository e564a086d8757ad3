/- What must come at any rate: some of the chapter's examples. -/
import Derived.Test.YtgiegjghldhppabGreatNdU
import Derived.Test.YtgiegjghldhppabGreatNdSZ
namespace Go.Proofs.YtgiegjghldhppabGreat
open Go.RowKit
set_option linter.unusedVariables false

def Al.one : Nd := .mk [.int 1, .int 0, .int 1, .strs []] [[], [], [], []]
def Al.pair : Nd := .mk [.int 9, .int 0, .int 0, .strs []] [[], [Al.one, Al.one], [], []]
def Al.dec : Nd := .mk [.int 1, .int 0, .str ⟨#[120]⟩, .strs []] [[], [Al.pair], [], [], []]
def Al.fn : Nd := .mk [.int 7, .int 0, .int 0, .strs []] [[], [], [], []]
def Al.var : Nd := .mk [.int 5, .int 0, .int 0, .strs [⟨#[65]⟩]] [[], [], [], []]
theorem Al.r0 : Nd.rightL [Al.dec] = (0, 0) := by kernel_rfl
theorem Al.r1 : (Nd.meter [Al.dec]).a = 4 := by kernel_rfl
theorem Al.r2 : (Nd.meter [Al.dec]).d = 3 := by kernel_rfl
theorem Al.r3 : Nd.rightX Al.fn = 1 := by kernel_rfl
theorem Al.r4 : Nd.rightX Al.var = 12 := by kernel_rfl

theorem AtL.none (W : World) (n s : Nat) (p : Option Addr) (c : Nat) : AtL W Any n s (.slice p 0 c) [] := .inr ⟨rfl, p, c, rfl⟩
theorem Tx.none (W : World) (p : Option Addr) (c : Nat) : Tx W Any (.slice p 0 c) [] := .inr ⟨rfl, p, c, rfl⟩
theorem AtL.made {W : World} {n s : Nat} {arr : List Value} {t : TypeId} {l : List Nd} {m : Nat} (hm : l.length = m) (hl : m ≤ maxLen) (h : ∀ (i : Nat) x, l[i]? = some x → ∃ vs, vs.length = Nd.size s ∧ (∀ (j : Nat) v, vs[j]? = some v → arr[i * Nd.size s + j]? = some v) ∧ At W Any n s vs x) :
    AtL (W.alloc (.cells arr.toArray t)) Any n s (.slice (some ⟨W.heap.size, 0, .none⟩) m m) l := by
  subst hm
  refine .inl ⟨W.heap.size, 0, l.length, rfl, trivial, Nat.le_refl _, hl, fun i x hx => ?_⟩
  obtain ⟨vs, h1, h2, h3⟩ := h i x hx
  refine ⟨vs, h1, fun j v hv => ?_, At.move (Keeps.of_below (bl_alloc (Below.refl _ _) _)) (fun _ h => h) _ _ _ _ h3⟩
  rw [World.cell?_alloc_at _ _ _ _ rfl]
  have := h2 j v hv
  simpa using this
theorem Al.i64 : (-9223372036854775808 : Int) ≤ 0 ∧ (0 : Int) ≤ 9223372036854775807 := by decide
theorem Al.at_one (W : World) : At W Any 1 2 [.int .i64 1, .int .i64 0, .int .i64 1, .slice .none 0 0, .slice .none 0 0, .slice .none 0 0, .slice .none 0 0, .slice .none 0 0] Al.one :=
  At.exp_mk (by decide) (by decide) (by decide) (Tx.none _ _ _) (fun _ h => by cases h) (Nat.zero_le _) (AtL.none _ _ _ _ _) (AtL.none _ _ _ _ _) (AtL.none _ _ _ _ _) (AtL.none _ _ _ _ _)
theorem Al.at_fn (W : World) : At W Any 1 2 [.int .i64 7, .int .i64 0, .int .i64 0, .slice .none 0 0, .slice .none 0 0, .slice .none 0 0, .slice .none 0 0, .slice .none 0 0] Al.fn :=
  At.exp_mk (by decide) (by decide) (by decide) (Tx.none _ _ _) (fun _ h => by cases h) (Nat.zero_le _) (AtL.none _ _ _ _ _) (AtL.none _ _ _ _ _) (AtL.none _ _ _ _ _) (AtL.none _ _ _ _ _)
theorem Al.at_var (W : World) (b : Nat) (hc : W.cell? ⟨b, 0, .none⟩ = some (.string ⟨#[65]⟩)) : At W Any 1 2 [.int .i64 5, .int .i64 0, .int .i64 0, .slice (some ⟨b, 0, .none⟩) 1 1, .slice .none 0 0, .slice .none 0 0, .slice .none 0 0, .slice .none 0 0] Al.var :=
  At.exp_mk (by decide) (by decide) (by decide) (.inl ⟨b, 0, 1, rfl, trivial, Nat.le_refl _, fun j x hx => by
    cases j with
    | zero =>
      obtain rfl : (⟨#[65]⟩ : ByteArray) = x := by simpa using hx
      exact hc
    | succ j => simp at hx⟩) (fun x h => by
      obtain rfl : x = (⟨#[65]⟩ : ByteArray) := by simpa using h
      decide) (by decide) (AtL.none _ _ _ _ _) (AtL.none _ _ _ _ _) (AtL.none _ _ _ _ _) (AtL.none _ _ _ _ _)
theorem Al.list2 (W : World) (t : TypeId) : AtL (W.alloc (.cells [.int .i64 1, .int .i64 0, .int .i64 1, .slice .none 0 0, .slice .none 0 0, .slice .none 0 0, .slice .none 0 0, .slice .none 0 0, .int .i64 1, .int .i64 0, .int .i64 1, .slice .none 0 0, .slice .none 0 0, .slice .none 0 0, .slice .none 0 0, .slice .none 0 0].toArray t)) Any 1 2 (.slice (some ⟨W.heap.size, 0, .none⟩) 2 2) [Al.one, Al.one] := by
  refine AtL.made rfl (by decide) fun i x hx => ?_
  match i, hx with
  | 0, hx =>
    obtain rfl : Al.one = x := by simpa using hx
    exact ⟨_, rfl, fun j v hv => by
      obtain ⟨h1, h2⟩ := List.getElem?_eq_some_iff.1 hv
      subst h2
      have h8 : j < 8 := h1
      match j, h8 with
      | 0, _ => rfl
      | 1, _ => rfl
      | 2, _ => rfl
      | 3, _ => rfl
      | 4, _ => rfl
      | 5, _ => rfl
      | 6, _ => rfl
      | 7, _ => rfl, Al.at_one W⟩
  | 1, hx =>
    obtain rfl : Al.one = x := by simpa using hx
    exact ⟨_, rfl, fun j v hv => by
      obtain ⟨h1, h2⟩ := List.getElem?_eq_some_iff.1 hv
      subst h2
      have h8 : j < 8 := h1
      match j, h8 with
      | 0, _ => rfl
      | 1, _ => rfl
      | 2, _ => rfl
      | 3, _ => rfl
      | 4, _ => rfl
      | 5, _ => rfl
      | 6, _ => rfl
      | 7, _ => rfl, Al.at_one W⟩
  | i + 2, hx => simp at hx
/-- A list of one node that was made. -/
theorem AtL.made1 {W : World} {n s : Nat} {vs : List Value} {t : TypeId} {x : Nd} (hl : vs.length = Nd.size s) (h : At W Any n s vs x) : AtL (W.alloc (.cells vs.toArray t)) Any n s (.slice (some ⟨W.heap.size, 0, .none⟩) 1 1) [x] := by
  refine AtL.made rfl (by decide) fun i y hy => ?_
  cases i with
  | zero =>
    obtain rfl : x = y := by simpa using hy
    exact ⟨vs, hl, fun j v hv => by simpa using hv, h⟩
  | succ i => simp at hy

theorem Al.right (W : World) (v : Value) (h : AtL W Any 3 3 v [Al.dec]) : Calls Tryz.prog 9 #[v] W fun e w' => e = .returned (.tuple #[.int .i64 0, .int .i64 0]) ∧ Below W.heap.size W w' := by
  have := rightL_any 3 W v [Al.dec] h
  rwa [Al.r0] at this
theorem Al.nodes (W : World) (v : Value) (h : AtL W Any 3 3 v [Al.dec]) : Calls Tryz.prog 10 #[v] W fun e w' => e = .returned (.int .i64 4) ∧ Below W.heap.size W w' := by
  have := nodes_any 3 W v [Al.dec] h
  rwa [Al.r1] at this
theorem Al.depth (W : World) (v : Value) (h : AtL W Any 3 3 v [Al.dec]) : Calls Tryz.prog 18 #[v] W fun e w' => e = .returned (.int .i64 3) ∧ Below W.heap.size W w' := by
  have := depth_any 3 W v [Al.dec] h
  rwa [Al.r2] at this
theorem Al.same (W : World) (v : Value) (h : AtL W Any 3 3 v [Al.dec]) : Calls Tryz.prog 6 #[v, v] W fun e w' => e = .returned (.bool true) ∧ Below W.heap.size W w' := by
  have := sameDecs_any 3 W v v [Al.dec] [Al.dec] h h
  rwa [Nd.eqL_true.2 rfl] at this
theorem Al.xfn (W : World) : Calls Tryz.prog 19 #[.agg #[.int .i64 7, .int .i64 0, .int .i64 0, .slice .none 0 0, .slice .none 0 0, .slice .none 0 0, .slice .none 0 0, .slice .none 0 0]] W fun e w' => e = .returned (.int .i64 1) ∧ Below W.heap.size W w' := by
  have := rightExp_any 1 W _ Al.fn (Al.at_fn W)
  rwa [Al.r3] at this
theorem Al.xvar (W : World) (b : Nat) (hc : W.cell? ⟨b, 0, .none⟩ = some (.string ⟨#[65]⟩)) : Calls Tryz.prog 19 #[.agg #[.int .i64 5, .int .i64 0, .int .i64 0, .slice (some ⟨b, 0, .none⟩) 1 1, .slice .none 0 0, .slice .none 0 0, .slice .none 0 0, .slice .none 0 0]] W fun e w' => e = .returned (.int .i64 12) ∧ Below W.heap.size W w' := by
  have := rightExp_any 1 W _ Al.var (Al.at_var W b hc)
  rwa [Al.r4] at this
theorem one_any (w : World) : Calls Tryz.prog 17 #[] w fun e w' => e = .returned (.agg #[.int .i64 1, .int .i64 0, .int .i64 1, .slice .none 0 0, .slice .none 0 0, .slice .none 0 0, .slice .none 0 0, .slice .none 0 0]) ∧ w' = w.alloc (.cells #[.int .i64 1, .int .i64 0, .int .i64 1, .slice .none 0 0, .slice .none 0 0, .slice .none 0 0, .slice .none 0 0, .slice .none 0 0] 54) := by
  go_enter Tryz.func17, Tryz.ntmps17
  go_wp2
  refine bodyPost_ret (v := .agg #[.int .i64 1, .int .i64 0, .int .i64 1, .slice .none 0 0, .slice .none 0 0, .slice .none 0 0, .slice .none 0 0, .slice .none 0 0]) ?_ rfl ⟨rfl, rfl⟩
  simp [results, Tryz.results17, go_sem]
theorem Al.made (w : World) (o1 o2 : Obj) (t : TypeId) : AtL ((((( w.alloc o1).alloc o2).alloc (.cells #[.int .i64 1, .int .i64 0, .int .i64 1, .slice .none 0 0, .slice .none 0 0, .slice .none 0 0, .slice .none 0 0, .slice .none 0 0, .int .i64 1, .int .i64 0, .int .i64 1, .slice .none 0 0, .slice .none 0 0, .slice .none 0 0, .slice .none 0 0, .slice .none 0 0] t)).alloc (.cells #[.int .i64 9, .int .i64 0, .int .i64 0, .slice .none 0 0, .slice .none 0 0, .slice (some ⟨w.heap.size + 1 + 1, 0, .none⟩) 2 2, .slice .none 0 0, .slice .none 0 0] t)).alloc (.cells #[.int .i64 1, .int .i64 0, .string ⟨#[120]⟩, .slice .none 0 0, .slice .none 0 0, .slice (some ⟨w.heap.size + 1 + 1 + 1, 0, .none⟩) 1 1, .slice .none 0 0, .slice .none 0 0, .slice .none 0 0] 32)) Any 3 3 (.slice (some ⟨w.heap.size + 1 + 1 + 1 + 1, 0, .none⟩) 1 1) [Al.dec] := by
  have h2 := Al.list2 ((w.alloc o1).alloc o2) t
  rw [show ((w.alloc o1).alloc o2).heap.size = w.heap.size + 1 + 1 by simp] at h2
  generalize hW3 : ((w.alloc o1).alloc o2).alloc (.cells [.int .i64 1, .int .i64 0, .int .i64 1, .slice .none 0 0, .slice .none 0 0, .slice .none 0 0, .slice .none 0 0, .slice .none 0 0, .int .i64 1, .int .i64 0, .int .i64 1, .slice .none 0 0, .slice .none 0 0, .slice .none 0 0, .slice .none 0 0, .slice .none 0 0].toArray t) = W3 at h2 ⊢
  have e3 : W3.heap.size = w.heap.size + 1 + 1 + 1 := by rw [← hW3]; simp
  have h3 : At W3 Any 2 2 [.int .i64 9, .int .i64 0, .int .i64 0, .slice .none 0 0, .slice .none 0 0, .slice (some ⟨w.heap.size + 1 + 1, 0, .none⟩) 2 2, .slice .none 0 0, .slice .none 0 0] Al.pair :=
    At.exp_mk (by decide) (by decide) (by decide) (Tx.none _ _ _) (fun _ h => by cases h) (Nat.zero_le _) (AtL.none _ _ _ _ _) h2 (AtL.none _ _ _ _ _) (AtL.none _ _ _ _ _)
  have h4 := AtL.made1 (t := t) rfl h3
  rw [e3] at h4
  generalize hW4 : W3.alloc (.cells [.int .i64 9, .int .i64 0, .int .i64 0, .slice .none 0 0, .slice .none 0 0, .slice (some ⟨w.heap.size + 1 + 1, 0, .none⟩) 2 2, .slice .none 0 0, .slice .none 0 0].toArray t) = W4 at h4 ⊢
  have e4 : W4.heap.size = w.heap.size + 1 + 1 + 1 + 1 := by rw [← hW4]; simp [e3]
  have h5 : At W4 Any 3 3 [.int .i64 1, .int .i64 0, .string ⟨#[120]⟩, .slice .none 0 0, .slice .none 0 0, .slice (some ⟨w.heap.size + 1 + 1 + 1, 0, .none⟩) 1 1, .slice .none 0 0, .slice .none 0 0, .slice .none 0 0] Al.dec :=
    At.dec_mk (by decide) (by decide) (by decide) (Tx.none _ _ _) (fun _ h => by cases h) (Nat.zero_le _) (AtL.none _ _ _ _ _) h4 (AtL.none _ _ _ _ _) (AtL.none _ _ _ _ _) (AtL.none _ _ _ _ _)
  have h6 := AtL.made1 (t := 32) rfl h5
  rw [e4] at h6
  exact h6

set_option maxHeartbeats 2000000 in
set_option maxRecDepth 100000 in
theorem alive_any (w : World) : Calls Tryz.prog 8 #[] w fun e w' => e = .returned (.bool true) ∧ Below w.heap.size w w' := by
  go_enter Tryz.func8, Tryz.ntmps8
  go_wp2_with (first
    | (go_at_call 6; refine (Al.same _ _ (hD.out.below B5)).mono ?_; rintro e w6 ⟨rfl, hb6⟩; have B6 := bl_tr B5 hb6)
    | (go_at_call 19; have _ := m4; refine (Al.xvar _ w4.heap.size (by simp [go_sem])).mono ?_; rintro e w5 ⟨rfl, hb5⟩; have B5 := bl_tr (bl_alloc B4 _) hb5; clear hb5 m4)
    | (go_at_call 19; refine (Al.xfn _).mono ?_; rintro e w4 ⟨rfl, hb4⟩; have m4 := True.intro; have B4 := bl_tr B3 hb4; clear hb4)
    | (go_at_call 18; refine (Al.depth _ _ (hD.out.below B2)).mono ?_; rintro e w3 ⟨rfl, hb3⟩; have B3 := bl_tr B2 hb3; clear hb3)
    | (go_at_call 10; refine (Al.nodes _ _ (hD.out.below B1)).mono ?_; rintro e w2 ⟨rfl, hb2⟩; have B2 := bl_tr B1 hb2; clear hb2)
    | (go_at_call 9; have hD := Al.made w (.cells #[.int .i64 1, .int .i64 0, .int .i64 1, .slice .none 0 0, .slice .none 0 0, .slice .none 0 0, .slice .none 0 0, .slice .none 0 0] 54) (.cells #[.int .i64 1, .int .i64 0, .int .i64 1, .slice .none 0 0, .slice .none 0 0, .slice .none 0 0, .slice .none 0 0, .slice .none 0 0] 54) 54; refine (Al.right _ _ hD).mono ?_; rintro e w1 ⟨rfl, B1⟩; have hB0 : Hid (Below w.heap.size w w1) := bl_tr (bl_alloc (bl_alloc (bl_alloc (bl_alloc (bl_alloc (Below.refl _ _) _) _) _) _) _) B1; replace hD := hD.below B1; replace hD : Hid (AtL w1 Any 3 3 (.slice (some ⟨w.heap.size + 1 + 1 + 1 + 1, 0, .none⟩) 1 1) [Al.dec]) := hD; clear B1; have B1 := Below.refl w1.heap.size w1)
    | (go_at_call 17; refine (one_any _).mono ?_; rintro e w0 ⟨rfl, hw⟩; rw [hw]; clear hw w0))
  go_ret
  exact ⟨rfl, bl_tr hB0.out B6⟩
end Go.Proofs.YtgiegjghldhppabGreat
