/- A node that is laid anew in its place: what is written, what is left alone. -/
import Derived.Test.YtgiegjghldhppabGreatNdM0
import Derived.Test.YtgiegjghldhppabGreatNdR
namespace Go.Proofs.YtgiegjghldhppabGreat
open Go.RowKit
set_option linter.unusedVariables false

/-- All blocks that were there are as they were, but B. -/
structure Bs (B : Nat) (w w' : World) : Prop where
  os : w'.os = w.os
  tape : w'.tape = w.tape
  output : w'.output = w.output
  size : w.heap.size ≤ w'.heap.size
  block : ∀ k, k < w.heap.size → k ≠ B → w'.heap[k]? = w.heap[k]?
theorem Bs.refl (B : Nat) (w : World) : Bs B w w := ⟨rfl, rfl, rfl, Nat.le_refl _, fun _ _ _ => rfl⟩
theorem Bs.trans {B : Nat} {a b c : World} (h : Bs B a b) (k : Bs B b c) : Bs B a c :=
  ⟨k.os.trans h.os, k.tape.trans h.tape, k.output.trans h.output, Nat.le_trans h.size k.size, fun i hi hB => (k.block i (Nat.lt_of_lt_of_le hi h.size) hB).trans (h.block i hi hB)⟩
theorem Bs.of_below {B : Nat} {w w' : World} (h : Below w.heap.size w w') : Bs B w w' := ⟨h.os, h.tape, h.output, h.size, fun k hk _ => h.block k hk⟩
theorem Bs.below {B : Nat} {a w w' : World} (h : Bs B a w) (h2 : Below w.heap.size w w') : Bs B a w' := h.trans (Bs.of_below h2)
theorem Bs.set {B : Nat} {a w : World} (h : Bs B a w) (j : Nat) (u : Value) : Bs B a (w.setCell ⟨B, j, none⟩ u) :=
  h.trans ⟨rfl, rfl, rfl, by simp [World.setCell], fun k hk hB => Below.heap_setCell _ _ _ _ hB⟩
theorem Bs.cell {B : Nat} {w w' : World} (h : Bs B w w') {p : Addr} (hp : p.block < w.heap.size) (hB : p.block ≠ B) : w'.cell? p = w.cell? p := World.cell?_of_block (w := w) (h.block p.block hp hB)
theorem Bs.keeps {B : Nat} {K : Nat → Prop} {w w' : World} (h : Bs B w w') (hK : ¬ K B) : Keeps K w w' := fun b o v hb hv =>
  (h.cell (World.block_lt_of_cell? w _ hv) (fun e => hK (by rw [← (show b = B from e)]; exact hb))).trans hv
/-- The blocks from one on, those that a world has and that may be written. -/
def Frm (n : Nat) (W : World) : Nat → Prop := fun b => n ≤ b ∧ b < W.heap.size ∧ ∀ o, W.frozen? ⟨b, o, none⟩ = false
theorem Frm.le {m n : Nat} {W : World} (h : m ≤ n) : ∀ b, Frm n W b → Frm m W b := fun b hb => ⟨Nat.le_trans h hb.1, hb.2⟩
theorem Frm.not {b n : Nat} {W : World} (h : b < n) : ¬ Frm n W b := fun k => absurd h (Nat.not_lt.2 k.1)
/-- From block n on all is as it was, or new. -/
structure Stp (n : Nat) (W W' : World) : Prop where
  k : ∀ b, n ≤ b → ∀ o v, W.cell? ⟨b, o, none⟩ = some v → W'.cell? ⟨b, o, none⟩ = some v
  f : ∀ b, Frm n W b → Frm n W' b
theorem Stp.refl (n : Nat) (W : World) : Stp n W W := ⟨fun _ _ _ _ h => h, fun _ h => h⟩
theorem Stp.keeps {n m : Nat} {W W' U : World} (h : Stp n W W') (hm : n ≤ m) : Keeps (Frm m U) W W' := fun b o v hb hv => h.k b (Nat.le_trans hm hb.1) o v hv
theorem Stp.up {n m : Nat} {W W' : World} (h : Stp n W W') (hm : n ≤ m) : ∀ b, Frm m W b → Frm m W' b := fun b hb => ⟨hb.1, (h.f b (Frm.le hm b hb)).2⟩
theorem Stp.at {n m q s : Nat} {W W' : World} {vs : List Value} {nd : Nd} (h : Stp n W W') (hm : n ≤ m) (ha : At W (Frm m W) q s vs nd) : At W' (Frm m W') q s vs nd := At.move (h.keeps hm) (h.up hm) _ _ _ _ ha
theorem Stp.atL {n m q s : Nat} {W W' : World} {v : Value} {l : List Nd} (h : Stp n W W') (hm : n ≤ m) (ha : AtL W (Frm m W) q s v l) : AtL W' (Frm m W') q s v l := ha.move (h.keeps hm) (h.up hm)
theorem Stp.tx {n m : Nat} {W W' : World} {v : Value} {l : List ByteArray} (h : Stp n W W') (hm : n ≤ m) (ha : Tx W (Frm m W) v l) : Tx W' (Frm m W') v l := ha.move (h.keeps hm) (h.up hm)
theorem Stp.of_below {n : Nat} {W W' : World} (h : Below W.heap.size W W') : Stp n W W' :=
  ⟨fun b _ o v hv => (h.cell (World.block_lt_of_cell? W _ hv)).trans hv, fun b hb => ⟨hb.1, Nat.lt_of_lt_of_le hb.2.1 h.size, fun o => (h.frozen (p := ⟨b, o, none⟩) hb.2.1).trans (hb.2.2 o)⟩⟩
theorem Stp.of_bs {n B : Nat} {W W' : World} (h : Bs B W W') (hB : B < n) : Stp n W W' :=
  ⟨fun b hb o v hv => (h.cell (World.block_lt_of_cell? W _ hv) (by show b ≠ B; omega)).trans hv, fun b hb => ⟨hb.1, Nat.lt_of_lt_of_le hb.2.1 h.size, fun o => by
    rw [World.frozen?_of_block (w := W) (h.block b hb.2.1 (by have := hb.1; omega))]; exact hb.2.2 o⟩⟩
theorem Stp.set {n : Nat} {W : World} {b j : Nat} (hb : b < n) (u : Value) : Stp n W (W.setCell ⟨b, j, none⟩ u) := Stp.of_bs ((Bs.refl b W).set j u) hb
theorem Bs.under {B n : Nat} {w w' : World} (h : Bs B w w') (hB : n ≤ B) (hn : n ≤ w.heap.size) : Below n w w' := ⟨h.os, h.tape, h.output, h.size, fun k hk => h.block k (by omega) (by omega)⟩

/-- The cells of one node, from o on in block b, hold vs, and may be written; of what was there but these cells alone may have changed. P: what else is known. -/
structure Fs (w : World) (b o : Nat) (vs : List Value) (P : World → Prop) (W : World) : Prop where
  bes : Bs b w W
  lt : b < w.heap.size
  c : Cells W b o vs
  z : ∀ j, w.frozen? ⟨b, j, none⟩ = false → W.frozen? ⟨b, j, none⟩ = false
  f : ∀ j, j < vs.length → w.frozen? ⟨b, o + j, none⟩ = false
  r : ∀ j v, (j < o ∨ o + vs.length ≤ j) → w.cell? ⟨b, j, none⟩ = some v → W.cell? ⟨b, j, none⟩ = some v
  st : ∀ W W', Stp w.heap.size W W' → P W → P W'
  p : P W
theorem Fs.start {w : World} {b o : Nat} {vs : List Value} (hc : Cells w b o vs) (h0 : vs ≠ []) (hf : ∀ j, j < vs.length → w.frozen? ⟨b, o + j, none⟩ = false) : Fs w b o vs (fun _ => True) w :=
  ⟨Bs.refl _ _, by
    cases vs with
    | nil => exact absurd rfl h0
    | cons v r => exact World.block_lt_of_cell? w _ (hc 0 v rfl), hc, fun _ h => h, hf, fun _ _ _ h => h, fun _ _ _ h => h, trivial⟩
theorem Fs.call {w : World} {b o : Nat} {vs : List Value} {P : World → Prop} {W W' : World} (h : Fs w b o vs P W) (hb : Below W.heap.size W W') : Fs w b o vs P W' :=
  have hl : b < W.heap.size := Nat.lt_of_lt_of_le h.lt h.bes.size
  ⟨h.bes.below hb, h.lt, fun j v hv => (hb.cell hl).trans (h.c j v hv), fun j hj => (hb.frozen hl).trans (h.z j hj), h.f, fun j v hj hv => (hb.cell hl).trans (h.r j v hj hv), h.st, h.st _ _ (Stp.of_below hb) h.p⟩
theorem Fs.add {w : World} {b o : Nat} {vs : List Value} {P : World → Prop} {W : World} (h : Fs w b o vs P W) {n s : Nat} {v : Value} {l : List Nd} (hl : AtL W (Frm w.heap.size W) n s v l) : Fs w b o vs (fun W => AtL W (Frm w.heap.size W) n s v l ∧ P W) W :=
  ⟨h.bes, h.lt, h.c, h.z, h.f, h.r, fun W W' hk hp => ⟨hk.atL (Nat.le_refl _) hp.1, h.st W W' hk hp.2⟩, ⟨hl, h.p⟩⟩
theorem Fs.addTx {w : World} {b o : Nat} {vs : List Value} {P : World → Prop} {W : World} (h : Fs w b o vs P W) {v : Value} {l : List ByteArray} (hl : Tx W (Frm w.heap.size W) v l) : Fs w b o vs (fun W => Tx W (Frm w.heap.size W) v l ∧ P W) W :=
  ⟨h.bes, h.lt, h.c, h.z, h.f, h.r, fun W W' hk hp => ⟨hk.tx (Nat.le_refl _) hp.1, h.st W W' hk hp.2⟩, ⟨hl, h.p⟩⟩
theorem Fs.set {w : World} {b o : Nat} {vs : List Value} {P : World → Prop} {W : World} (h : Fs w b o vs P W) (j : Nat) (hj : j < vs.length) (u : Value) : Fs w b o (vs.set j u) P (W.setCell ⟨b, o + j, none⟩ u) := by
  have hl : b < W.heap.size := Nat.lt_of_lt_of_le h.lt h.bes.size
  obtain ⟨u0, hu0⟩ : ∃ u0, W.cell? ⟨b, o + j, none⟩ = some u0 := ⟨_, h.c j _ (List.getElem?_eq_getElem hj)⟩
  refine ⟨h.bes.set _ _, h.lt, fun i v hv => ?_, fun i hi => ?_, fun i hi => h.f i (by simpa using hi), fun i v hi hv => ?_, h.st, h.st _ _ (Stp.set h.lt u) h.p⟩
  · by_cases e : i = j
    · subst e
      rw [List.getElem?_set_self hj] at hv
      injection hv with hv
      subst hv
      exact World.cell?_setCell_same _ _ _ hu0
    · rw [List.getElem?_set_ne (Ne.symm e)] at hv
      rw [World.cell?_setCell_other _ _ _ _ (fun q => by injection q with _ q _; omega)]
      exact h.c i v hv
  · rw [World.frozen?_setCell]; exact h.z i hi
  · rw [List.length_set] at hi
    rw [World.cell?_setCell_other _ _ _ _ (fun q => by injection q with _ q _; omega)]
    exact h.r i v hi hv
theorem Fs.get {w : World} {b o : Nat} {vs : List Value} {P : World → Prop} {W : World} (h : Fs w b o vs P W) (j : Nat) {v : Value} (hj : vs[j]? = some v) : W.cell? ⟨b, o + j, none⟩ = some v := h.c j v hj
theorem Fs.thaw {w : World} {b o : Nat} {vs : List Value} {P : World → Prop} {W : World} (h : Fs w b o vs P W) (j : Nat) (hj : j < vs.length) : W.frozen? ⟨b, o + j, none⟩ = false := h.z _ (h.f j hj)
theorem Fs.drop {w : World} {b o : Nat} {vs : List Value} {P : World → Prop} {W : World} (h : Fs w b o vs P W) : Fs w b o vs (fun _ => True) W := ⟨h.bes, h.lt, h.c, h.z, h.f, h.r, fun _ _ _ h => h, trivial⟩
theorem Fs.keeps {w : World} {b o : Nat} {vs : List Value} {P : World → Prop} {W : World} {K : Nat → Prop} (h : Fs w b o vs P W) (hK : ¬ K b) : Keeps K w W := h.bes.keeps hK
end Go.Proofs.YtgiegjghldhppabGreat
