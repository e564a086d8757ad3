/- A range over an iterator that turns a box of its own between two rounds: what the iterator promises, and what the loop comes to. -/
import Derived.RangeFuncNested
import Derived.RangeFuncBound
import Derived.RangeFuncCalls
import Derived.RangeFuncLeaves
import Derived.Shelf.Abstract
import Derived.Shelf.RegionOpen
import Derived.WalkKit
import Derived.OwnWalkIn
import Derived.TacticsInMore
import Derived.LoopNIn
import Derived.LoopIn
namespace Go.Proofs.YtcccmbiocknknaaDoor
open Go.RowKit Go.Shelf
set_option linter.unusedVariables false

/-- The iterator's word: between two rounds it turns the box Bs and lays blocks, nothing else. -/
def SeqBox {α : Type} (F : Fence) (n : Nat) (P : Program) (g : Nat) (lb : Array Value) (encs : α → Array Value) (Bs : Nat) (Kp : World → World → Prop) (S Sp : List α → Prop) (N : Nat) (w : World) : Prop :=
  ∀ (l : Nat) (J Jx : List α → World → Prop) (W : World), Below w.heap.size w W → (∀ pre A B, J pre A → A.grownBy B (some Bs) → J pre B) →
    (∀ pre x W1, J pre W1 → pre.length < N → YieldAt F (n - 1) P l (encs x) W1 fun e W' =>
      (e = .returned (.bool true) ∧ J (pre ++ [x]) W' ∧ Kp W1 W') ∨ (e = .returned (.bool false) ∧ Jx (pre ++ [x]) W')) →
    J [] W →
    CallsIn F n P g (#[.func (.yield l) #[] #[]] ++ lb) W fun e W' => (∃ v, e = .returned v) ∧ ((∃ xs, S xs ∧ J xs W') ∨ (∃ pre, Sp pre ∧ Jx pre W'))

theorem wpIn_rangeFunc_box {F : Fence} {n : Nat} {P : Program} {α : Type} {g : Operand} {ps : Array Tmp} {assign body : Code} {Q : Exit → Act → World → Prop} {a : Act} {w : World}
    (hro : F.round = none) (h1 : 1 ≤ n) {gf Bs : Nat} {lb : Array Value} (hg : a.eval g = .func (.func gf) #[] lb) (hFg : F.fn gf) (eg : ∀ args w, (callFunc gf args).run P w = .ok (.enter gf args) w)
    {encs : α → Array Value} {Kp : World → World → Prop} {S Sp : List α → Prop} {N : Nat} (hseq : SeqBox F (n - 1) P gf lb encs Bs Kp S Sp N w) (hBs : Bs < w.heap.size)
    (hKt : ∀ {A B C : World}, Kp A B → Kp B C → Kp A C) (hKb : ∀ (W : World) (l : Nat) (o o' : Obj), w.heap.size ≤ l → W.heap[l]? = some o → o.isCells = false → o.isWalk = false → Kp W (W.putObj l o')) (hps : ∀ x, (encs x).size = ps.size)
    (I : List α → World → Prop) (Ix : Code → List α → World → Prop) (hI : OwnFrom w.heap.size I) (hIx : ∀ c, OwnFrom w.heap.size (Ix c)) (hIB : ∀ pre A B, I pre A → A.grownBy B (some Bs) → I pre B) (h0 : I [] w)
    (Ax : α → Act → World → Prop) (hAx : ∀ x a', OwnFrom w.heap.size (fun (_ : Unit) W => Ax x a' W))
    (hassign : ∀ (l : Nat) (pre : List α) (x : α) (W : World) (K : Act → World → Prop), I pre W → (∀ a' W', KeepsFrom w.heap.size W W' → Kp W W' → I pre W' → Ax x a' W' → K a' W') →
      assign.wpIn (F.inRound l) (n - 1 - 1) P (Exit.then K (fun _ _ _ => False)) { tmps := (ps.zip (encs x)).foldl (fun t (p, v) => t.setIfInBounds p v) a.tmps, defers := [] } W)
    (hbody : ∀ (l : Nat) (pre : List α) (x : α) (a' : Act) (W : World), w.heap.size ≤ l → (∃ r, W.heap[l]? = some (.loop r)) → I pre W → Ax x a' W → pre.length < N → body.wpIn (F.inRound l) (n - 1 - 1) P (ownPostG w.heap.size Kp I Ix (pre ++ [x]) W) a' W)
    (hdone : ∀ (D : Nat) (xs : List α) (W : World), w.heap.size ≤ D → S xs → I xs W → W.heap[D]? = some (.deferred (some [])) → Q .normal { a with defers := { target := .collected D, args := #[] } :: a.defers } W)
    (hstop : ∀ (D : Nat) (c : Code) (pre : List α) (W : World), w.heap.size ≤ D → Sp pre → Ix c pre W → W.heap[D]? = some (.deferred (some [])) → c.wpIn F n P Q { a with defers := { target := .collected D, args := #[] } :: a.defers } W) :
    (Code.rangeFunc g ps assign body).wpIn F n P Q a w := by
  refine wpIn_rangeFunc ?_
  intro fn hfn
  rw [hro]
  let rk : LoopState → Option Code → Loop := fun st pe => { state := st, pending := pe, fn, tmps := a.tmps, params := ps, assign, body, defers := w.heap.size }
  let V : World := (w.alloc (.deferred (some []))).alloc (.loop (rk .ready none))
  have vL : V.heap[w.heap.size + 1]? = some (.loop (rk .ready none)) := by
    have := World.alloc_heap_new (w.alloc (.deferred (some []))) (.loop (rk .ready none)); rwa [World.size_alloc] at this
  have vD : V.heap[w.heap.size]? = some (.deferred (some [])) := (Below.heap_alloc _ _ _ (by simp)).trans (World.alloc_heap_new w _)
  have vI : I [] V := hI.alloc _ (hI.alloc _ h0)
  have vB : Below w.heap.size w V := ((Below.refl _ w).alloc (Nat.le_refl _) _).alloc (by simp) _
  refine ⟨w.heap.size + 1, [{ target := .collected w.heap.size, args := #[] }], V, { target := .fn (.func gf) lb, args := #[.func (.yield (w.heap.size + 1)) #[] #[]] }, V, gf,
    #[.func (.yield (w.heap.size + 1)) #[] #[]] ++ lb, V, run_enterLoop_outer _ _ _ _ _, ?_, ?_, ?_, fun _ => h1, ?_⟩
  · simp only [resolve, hg]
    simp [go_sem]
  · intro f' hf'; simp [Target.leads] at hf'; subst hf'; exact hFg
  · simp [invoke, go_sem, eg]
  refine (hseq (w.heap.size + 1)
    (fun pre W => I pre W ∧ W.heap[w.heap.size + 1]? = some (.loop (rk .ready none)) ∧ W.heap[w.heap.size]? = some (.deferred (some [])))
    (fun pre W => ∃ c, Ix c pre W ∧ W.heap[w.heap.size + 1]? = some (.loop (rk .done (some c))) ∧ W.heap[w.heap.size]? = some (.deferred (some [])))
    V vB ?keeps ?round ⟨vI, vL, vD⟩).mono ?behind
  case keeps =>
    rintro pre A B ⟨hi, hl, hk⟩ hgr
    have ll := (Array.getElem?_eq_some_iff.1 hl).1
    have lk := (Array.getElem?_eq_some_iff.1 hk).1
    exact ⟨hIB pre A B hi hgr, (hgr.block _ ll (fun e => by cases e; omega)).trans hl, (hgr.block _ lk (fun e => by cases e; omega)).trans hk⟩
  case round =>
    rintro pre x W ⟨hi, hl, hk⟩ hlen
    refine ⟨fn, _, assign, body, run_yield (P := P) (args := encs x) hl (hps x), roundIn_of_wpIn hfn (hassign _ pre x W _ hi ?_)⟩
    intro a' A hkf hkp hia hax
    have al := hkf.same _ _ (by omega) hl rfl
    have ak := hkf.same _ _ (Nat.le_refl _) hk rfl
    have alt : w.heap.size + 1 < A.heap.size := (Array.getElem?_eq_some_iff.1 al).1
    refine ⟨_, run_beginRound al rfl, ?_⟩
    have bl : (A.putObj (w.heap.size + 1) (.loop { rk .ready none with state := .busy })).heap[w.heap.size + 1]? = some (.loop { rk .ready none with state := .busy }) := World.putObj_heap_same alt
    have bk : (A.putObj (w.heap.size + 1) (.loop { rk .ready none with state := .busy })).heap[w.heap.size]? = some (.deferred (some [])) := (World.putObj_heap_other (by omega)).trans ak
    have bp : Kp A (A.putObj (w.heap.size + 1) (.loop { rk .ready none with state := .busy })) := hKb _ _ _ _ (by omega) al rfl rfl
    refine wpIn_mono (hbody _ pre x a' _ (by omega) ⟨_, bl⟩ (hI.putObj _ hia (by omega) al rfl) ((hAx x a').putObj (s := ()) _ hax (by omega) al rfl) hlen) ?_
    have fin : ∀ (jump : Option Code) (Z : World), KeepsFrom w.heap.size (A.putObj (w.heap.size + 1) (.loop { rk .ready none with state := .busy })) Z →
        (Instr.endRound (w.heap.size + 1) jump).run P Z = .ok (.bool jump.isNone) (Z.putObj (w.heap.size + 1) (.loop (rk (if jump.isNone then .ready else .done) jump))) ∧
        Z.heap[w.heap.size + 1]? = some (.loop { rk .ready none with state := .busy }) ∧
        (Z.putObj (w.heap.size + 1) (.loop (rk (if jump.isNone then .ready else .done) jump))).heap[w.heap.size + 1]? = some (.loop (rk (if jump.isNone then .ready else .done) jump)) ∧
        (Z.putObj (w.heap.size + 1) (.loop (rk (if jump.isNone then .ready else .done) jump))).heap[w.heap.size]? = some (.deferred (some [])) := fun jump Z hz => by
      have zl := hz.same _ _ (by omega) bl rfl
      exact ⟨run_endRound (P := P) jump zl, zl, World.putObj_heap_same (Array.getElem?_eq_some_iff.1 zl).1, (World.putObj_heap_other (by omega)).trans (hz.same _ _ (Nat.le_refl _) bk rfl)⟩
    rintro e a3 Z hp
    cases e with
    | normal =>
      obtain ⟨hz, hzp, hzi⟩ := hp
      obtain ⟨hr, zl, yl, yk⟩ := fin none Z hz
      exact ⟨_, _, hr, .inl ⟨rfl, ⟨hI.putObj _ hzi (by omega) zl rfl, yl, yk⟩, hKt hkp (hKt (hKt bp hzp) (hKb _ _ _ _ (by omega) zl rfl rfl))⟩⟩
    | ret =>
      obtain ⟨hz, hzi⟩ := hp
      obtain ⟨hr, zl, yl, yk⟩ := fin (some .ret) Z hz
      exact ⟨_, _, hr, .inr ⟨rfl, .ret, (hIx _).putObj _ hzi (by omega) zl rfl, yl, yk⟩⟩
    | exit id =>
      obtain ⟨hz, hzi⟩ := hp
      obtain ⟨hr, zl, yl, yk⟩ := fin (some (.exit id)) Z hz
      exact ⟨_, _, hr, .inr ⟨rfl, .exit id, (hIx _).putObj _ hzi (by omega) zl rfl, yl, yk⟩⟩
    | goto t =>
      obtain ⟨hz, hzi⟩ := hp
      obtain ⟨hr, zl, yl, yk⟩ := fin (some (.goto t)) Z hz
      exact ⟨_, _, hr, .inr ⟨rfl, .goto t, (hIx _).putObj _ hzi (by omega) zl rfl, yl, yk⟩⟩
    | panic ch => exact hp.elim
    | outgrown => exact hp.elim
  case behind =>
    rintro e Z ⟨⟨v, rfl⟩, (⟨xs, hS, hi, hl, hk⟩ | ⟨pre, hSp, c, hi, hl, hk⟩)⟩
    · exact ⟨none, _, run_endLoop (P := P) hl (by simp [rk]), hdone _ xs _ (Nat.le_refl _) hS (hI.putObj _ hi (by omega) hl rfl) ((World.putObj_heap_other (by omega)).trans hk)⟩
    · exact ⟨some c, _, run_endLoop (P := P) hl (by simp [rk]), hstop _ c pre _ (Nat.le_refl _) hSp ((hIx c).putObj _ hi (by omega) hl rfl) ((World.putObj_heap_other (by omega)).trans hk)⟩
end Go.Proofs.YtcccmbiocknknaaDoor
