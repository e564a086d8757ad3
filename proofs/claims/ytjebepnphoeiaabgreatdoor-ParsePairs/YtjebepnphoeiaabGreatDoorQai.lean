/- Pieces: GrM GrA GrB ShelfCon. -/
import Derived.Test.YtjebepnphoeiaabGreatDoorQah
import Derived.Test.YtjebepnphoeiaabGreatDoorQac
import Derived.Laws.ResultCell
import Derived.Lib.Strings
import Derived.Shelf.Slices.Turned
import Derived.Test.YtjebepnphoeiaabGreatDoorProg
namespace Go.Proofs.YtjebepnphoeiaabGreatDoor
open Go.RowKit
set_option linter.unusedVariables false

structure Bes (B : Nat) (w w' : World) : Prop where
 os : w'.os = w.os
 tape : w'.tape = w.tape
 output : w'.output = w.output
 size : w.heap.size ≤ w'.heap.size
 block : ∀ k, k < w.heap.size → k ≠ B → w'.heap[k]? = w.heap[k]?
theorem Bes.refl (B : Nat) (w : World) : Bes B w w := ⟨rfl, rfl, rfl, Nat.le_refl _, fun _ _ _ => rfl⟩
theorem Bes.trans {B : Nat} {a b c : World} (h : Bes B a b) (k : Bes B b c) : Bes B a c :=
 ⟨k.os.trans h.os, k.tape.trans h.tape, k.output.trans h.output, Nat.le_trans h.size k.size, fun i hi hB => (k.block i (Nat.lt_of_lt_of_le hi h.size) hB).trans (h.block i hi hB)⟩
theorem Bes.of_below {B : Nat} {w w' : World} (h : Below w.heap.size w w') : Bes B w w' := ⟨h.os, h.tape, h.output, h.size, fun k hk _ => h.block k hk⟩
theorem Bes.below {B : Nat} {a w w' : World} (h : Bes B a w) (h2 : Below w.heap.size w w') : Bes B a w' := h.trans (Bes.of_below h2)
theorem Bes.alloc {B : Nat} {a w : World} (h : Bes B a w) (o : Obj) : Bes B a (w.alloc o) := h.below (bl_alloc (Below.refl _ _) o)
theorem Bes.drew {B : Nat} {a w : World} (h : Bes B a w) : Bes B a w.drew := h.below (Below.refl _ _).drew
theorem Bes.set {B : Nat} {a w : World} (h : Bes B a w) (j : Nat) (u : Value) : Bes B a (w.setCell ⟨B, j, none⟩ u) :=
 h.trans ⟨rfl, rfl, rfl, by simp [World.setCell], fun k hk hB => Below.heap_setCell _ _ _ _ hB⟩
theorem Bes.cell {B : Nat} {w w' : World} (h : Bes B w w') {p : Addr} (hp : p.block < w.heap.size) (hB : p.block ≠ B) : w'.cell? p = w.cell? p := World.cell?_of_block (w := w) (h.block p.block hp hB)
theorem Bes.frozen {B : Nat} {w w' : World} (h : Bes B w w') {p : Addr} (hp : p.block < w.heap.size) (hB : p.block ≠ B) : w'.frozen? p = w.frozen? p := World.frozen?_of_block (w := w) (h.block p.block hp hB)
def Ge (n : Nat) : Nat → Prop := fun b => n ≤ b
theorem Bes.keeps {B m : Nat} {w w' : World} (h : Bes B w w') (hm : B < m) : Keeps (Ge m) w w' := fun b o v hb hv => (h.cell (World.block_lt_of_cell? w _ hv) (by have : m ≤ b := hb; show b ≠ B; omega)).trans hv
theorem Bes.at {B m n s : Nat} {w w' : World} {vs : List Value} {nd : Nd} (h : Bes B w w') (hm : B < m) (ha : At w (Ge m) n s vs nd) : At w' (Ge m) n s vs nd := At.move (h.keeps hm) (fun _ h => h) _ _ _ _ ha
theorem Keeps.set {m : Nat} {w : World} {p : Addr} (hp : p.block < m) (u : Value) : Keeps (Ge m) w (w.setCell p u) := fun b o v hb hv => by
 rw [World.cell?_setCell_other _ _ _ _ (fun e => by subst e; have : m ≤ b := hb; simp at hp; omega)]; exact hv
theorem Ge.le {m n : Nat} (h : m ≤ n) : ∀ b, Ge n b → Ge m b := fun b hb => Nat.le_trans h hb
structure Bx (w : World) (b : Nat) (vs : List Value) : Prop where
 c : Cells w b 0 vs
 z : ∀ j, j < vs.length → w.frozen? ⟨b, j, none⟩ = false
theorem Bx.new (w : World) (vs : List Value) (t : TypeId) : Bx (w.alloc (.cells vs.toArray t)) w.heap.size vs := by
 refine ⟨fun j v hv => ?_, fun j hj => ?_⟩
 ·
  rw [World.cell?_alloc_at _ _ _ _ rfl]; simpa using hv
 ·
  simp [go_sem]
theorem Bx.lt {w : World} {b : Nat} {v : Value} {vs : List Value} (h : Bx w b (v :: vs)) : b < w.heap.size := World.block_lt_of_cell? w _ (h.c 0 v rfl)
theorem Bx.bes {B : Nat} {w w' : World} {b : Nat} {v : Value} {vs : List Value} (h : Bx w b (v :: vs)) (hb : Bes B w w') (hB : b ≠ B) : Bx w' b (v :: vs) :=
 ⟨fun j u hu => (hb.cell h.lt hB).trans (h.c j u hu), fun j hj => (hb.frozen h.lt hB).trans (h.z j hj)⟩
theorem Bx.below {w w' : World} {b : Nat} {v : Value} {vs : List Value} (h : Bx w b (v :: vs)) (hb : Below w.heap.size w w') : Bx w' b (v :: vs) :=
 ⟨fun j u hu => (hb.cell h.lt).trans (h.c j u hu), fun j hj => (hb.frozen h.lt).trans (h.z j hj)⟩
theorem Bx.e4 {w : World} {b : Nat} {v0 v1 v2 v3 : Value} (h : Bx w b [v0, v1, v2, v3]) : (w.cell? ⟨b, 0, none⟩ = some v0 ∧ w.cell? ⟨b, 1, none⟩ = some v1 ∧ w.cell? ⟨b, 2, none⟩ = some v2 ∧ w.cell? ⟨b, 3, none⟩ = some v3) ∧ w.frozen? ⟨b, 0, none⟩ = false ∧ w.frozen? ⟨b, 1, none⟩ = false ∧ w.frozen? ⟨b, 2, none⟩ = false ∧ w.frozen? ⟨b, 3, none⟩ = false := by
 have hc : ∀ j v, [v0, v1, v2, v3][j]? = some v → w.cell? ⟨b, j, none⟩ = some v := fun j v hv => by have := h.c j v hv; rw [Nat.zero_add] at this; exact this
 exact ⟨⟨hc 0 _ rfl, hc 1 _ rfl, hc 2 _ rfl, hc 3 _ rfl⟩, h.z 0 (by simp), h.z 1 (by simp), h.z 2 (by simp), h.z 3 (by simp)⟩
theorem Bx.e5 {w : World} {b : Nat} {v0 v1 v2 v3 v4 : Value} (h : Bx w b [v0, v1, v2, v3, v4]) : (w.cell? ⟨b, 0, none⟩ = some v0 ∧ w.cell? ⟨b, 1, none⟩ = some v1 ∧ w.cell? ⟨b, 2, none⟩ = some v2 ∧ w.cell? ⟨b, 3, none⟩ = some v3 ∧ w.cell? ⟨b, 4, none⟩ = some v4) ∧ w.frozen? ⟨b, 0, none⟩ = false ∧ w.frozen? ⟨b, 1, none⟩ = false ∧ w.frozen? ⟨b, 2, none⟩ = false ∧ w.frozen? ⟨b, 3, none⟩ = false ∧ w.frozen? ⟨b, 4, none⟩ = false := by
 have hc : ∀ j v, [v0, v1, v2, v3, v4][j]? = some v → w.cell? ⟨b, j, none⟩ = some v := fun j v hv => by have := h.c j v hv; rw [Nat.zero_add] at this; exact this
 exact ⟨⟨hc 0 _ rfl, hc 1 _ rfl, hc 2 _ rfl, hc 3 _ rfl, hc 4 _ rfl⟩, h.z 0 (by simp), h.z 1 (by simp), h.z 2 (by simp), h.z 3 (by simp), h.z 4 (by simp)⟩
theorem Bx.e8 {w : World} {b : Nat} {v0 v1 v2 v3 v4 v5 v6 v7 : Value} (h : Bx w b [v0, v1, v2, v3, v4, v5, v6, v7]) : (w.cell? ⟨b, 0, none⟩ = some v0 ∧ w.cell? ⟨b, 1, none⟩ = some v1 ∧ w.cell? ⟨b, 2, none⟩ = some v2 ∧ w.cell? ⟨b, 3, none⟩ = some v3 ∧ w.cell? ⟨b, 4, none⟩ = some v4 ∧ w.cell? ⟨b, 5, none⟩ = some v5 ∧ w.cell? ⟨b, 6, none⟩ = some v6 ∧ w.cell? ⟨b, 7, none⟩ = some v7) ∧ w.frozen? ⟨b, 0, none⟩ = false ∧ w.frozen? ⟨b, 1, none⟩ = false ∧ w.frozen? ⟨b, 2, none⟩ = false ∧ w.frozen? ⟨b, 3, none⟩ = false ∧ w.frozen? ⟨b, 4, none⟩ = false ∧ w.frozen? ⟨b, 5, none⟩ = false ∧ w.frozen? ⟨b, 6, none⟩ = false ∧ w.frozen? ⟨b, 7, none⟩ = false := by
 have hc : ∀ j v, [v0, v1, v2, v3, v4, v5, v6, v7][j]? = some v → w.cell? ⟨b, j, none⟩ = some v := fun j v hv => by have := h.c j v hv; rw [Nat.zero_add] at this; exact this
 exact ⟨⟨hc 0 _ rfl, hc 1 _ rfl, hc 2 _ rfl, hc 3 _ rfl, hc 4 _ rfl, hc 5 _ rfl, hc 6 _ rfl, hc 7 _ rfl⟩, h.z 0 (by simp), h.z 1 (by simp), h.z 2 (by simp), h.z 3 (by simp), h.z 4 (by simp), h.z 5 (by simp), h.z 6 (by simp), h.z 7 (by simp)⟩
theorem Bes.grown {B : Nat} {a w w' : World} {row : Option Nat} (h : Bes B a w) (hg : w.grownBy w' row) (hr : ∀ k, row = some k → a.heap.size ≤ k) : Bes B a w' :=
 ⟨hg.os.trans h.os, hg.tape.trans h.tape, hg.output.trans h.output, Nat.le_trans h.size hg.size, fun k hk hB => (hg.block k (Nat.lt_of_lt_of_le hk h.size) (fun e => by have := hr k e.symm; omega)).trans (h.block k hk hB)⟩
theorem Bes.under {B n : Nat} {w w' : World} (h : Bes B w w') (hB : n ≤ B) (hn : n ≤ w.heap.size) : Below n w w' := ⟨h.os, h.tape, h.output, h.size, fun k hk => h.block k (by omega) (by omega)⟩

structure Gr.TokOk (S : Nat) (t : Lx.Tok) : Prop where
 k1 : 1 ≤ t.kind
 k6 : t.kind ≤ 6
 len : t.text.length ≤ 4096
 tyv : t.kind = 5 → 1 ≤ t.text.length
 num : t.n ≤ 9223372036854775807
 left : t.left ≤ S
def Gr.cells (S : Nat) (t : Lx.Tok) : List Value := [.int .i64 (t.kind : Int), .string (Gr.tx t), .int .i64 (t.n : Int), .int .i64 ((S - t.left : Nat) : Int)]
def Tk (w : World) (B S : Nat) (v : Value) (ts : Gr.Ts) : Prop :=
 (∃ b o c, v = .slice (some ⟨b, o, none⟩) ts.length c ∧ b < B ∧ ts.length ≤ c ∧ Cells w b o (ts.flatMap (Gr.cells S))) ∨ (ts = [] ∧ ∃ p c, v = .slice p 0 c)
structure Rd (w : World) (B S : Nat) (ts : Gr.Ts) : Prop where
 lt : B < w.heap.size
 rest : ∃ v, w.cell? ⟨B, 0, none⟩ = some v ∧ Tk w B S v ts
 e : w.cell? ⟨B, 1, none⟩ = some (.int .i64 (S : Int))
 a : w.cell? ⟨B, 2, none⟩ = some (.int .i64 0)
 k : w.cell? ⟨B, 3, none⟩ = some (.int .i64 0)
 z0 : w.frozen? ⟨B, 0, none⟩ = false
 z2 : w.frozen? ⟨B, 2, none⟩ = false
 z3 : w.frozen? ⟨B, 3, none⟩ = false
 ok : ∀ t, t ∈ ts → Gr.TokOk S t
 len : ts.length ≤ 1024
 small : S ≤ 4096
theorem Tk.below {w w' : World} {B S : Nat} {v : Value} {ts : Gr.Ts} (h : Tk w B S v ts) (hb : Below w.heap.size w w') : Tk w' B S v ts := by
 rcases h with ⟨b, o, c, hv, hn, hl, hc⟩ | h
 ·
  exact .inl ⟨b, o, c, hv, hn, hl, fun j v hv => (hb.cell (World.block_lt_of_cell? w _ (hc j v hv))).trans (hc j v hv)⟩
 ·
  exact .inr h
theorem Rd.below {w w' : World} {B S : Nat} {ts : Gr.Ts} (h : Rd w B S ts) (hb : Below w.heap.size w w') : Rd w' B S ts := by
 obtain ⟨v, h0, h1⟩ := h.rest
 exact ⟨Nat.lt_of_lt_of_le h.lt hb.size, ⟨v, (hb.cell h.lt).trans h0, h1.below hb⟩, (hb.cell h.lt).trans h.e, (hb.cell h.lt).trans h.a, (hb.cell h.lt).trans h.k, (hb.frozen h.lt).trans h.z0, (hb.frozen h.lt).trans h.z2, (hb.frozen h.lt).trans h.z3, h.ok, h.len, h.small⟩
theorem Rd.alloc {w : World} {B S : Nat} {ts : Gr.Ts} (h : Rd w B S ts) (o : Obj) : Rd (w.alloc o) B S ts := h.below (bl_alloc (Below.refl _ _) o)
theorem Rd.form {w : World} {B S : Nat} {ts : Gr.Ts} (h : Rd w B S ts) : ∃ p c, w.cell? ⟨B, 0, none⟩ = some (.slice p ts.length c) := by
 obtain ⟨v, h0, h1⟩ := h.rest
 rcases h1 with ⟨b, o, c, rfl, -⟩ | ⟨rfl, p, c, rfl⟩
 ·
  exact ⟨_, _, h0⟩
 ·
  exact ⟨_, _, h0⟩
theorem Rd.cons {w : World} {B S : Nat} {t : Lx.Tok} {r : Gr.Ts} (h : Rd w B S (t :: r)) : ∃ b o c, w.cell? ⟨B, 0, none⟩ = some (.slice (some ⟨b, o, none⟩) (r.length + 1) c) ∧ b < B ∧ r.length + 1 ≤ c ∧
  w.cell? ⟨b, o, none⟩ = some (.int .i64 (t.kind : Int)) ∧ w.cell? ⟨b, o + 1, none⟩ = some (.string (Gr.tx t)) ∧ w.cell? ⟨b, o + 2, none⟩ = some (.int .i64 (t.n : Int)) ∧ w.cell? ⟨b, o + 3, none⟩ = some (.int .i64 ((S - t.left : Nat) : Int)) ∧ Cells w b (o + 4) (r.flatMap (Gr.cells S)) := by
 obtain ⟨v, h0, h1⟩ := h.rest
 rcases h1 with ⟨b, o, c, rfl, hn, hl, hc⟩ | ⟨h2, -⟩
 ·
  refine ⟨b, o, c, h0, hn, hl, ?_, ?_, ?_, ?_, ?_⟩
  ·
   exact hc 0 _ rfl
  ·
   exact hc 1 _ rfl
  ·
   exact hc 2 _ rfl
  ·
   exact hc 3 _ rfl
  ·
   intro j u hu
   have := hc (j + 4) u hu
   rw [show o + 4 + j = o + (j + 4) by omega]
   exact this
 ·
  cases h2
theorem Rd.next {w : World} {B S : Nat} {ts r : Gr.Ts} (h : Rd w B S ts) (hs : ∀ t, t ∈ r → t ∈ ts) (hl : r.length ≤ ts.length) {u : Value} (hu : Tk w B S u r) : Rd (w.setCell ⟨B, 0, none⟩ u) B S r := by
 obtain ⟨v, h0, -⟩ := h.rest
 have hd : ∀ (q : Addr), q ≠ ⟨B, 0, none⟩ → (w.setCell ⟨B, 0, none⟩ u).cell? q = w.cell? q := fun q hq => World.cell?_setCell_other _ _ _ _ (fun e => hq e.symm)
 have hl2 := h.len
 refine ⟨by simpa [World.setCell] using h.lt, ⟨_, World.cell?_setCell_same _ _ _ h0, ?_⟩, ?_, ?_, ?_, ?_, ?_, ?_, fun t ht => h.ok t (hs t ht), by omega, h.small⟩
 ·
  rcases hu with ⟨b, o, c, hv, hn, hl, hc⟩ | hu
  ·
   exact .inl ⟨b, o, c, hv, hn, hl, fun j v hv => by rw [hd _ (by intro e; rw [Addr.mk.injEq] at e; omega)]; exact hc j v hv⟩
  ·
   exact .inr hu
 ·
  rw [hd _ (by intro e; rw [Addr.mk.injEq] at e; omega)]; exact h.e
 ·
  rw [hd _ (by intro e; rw [Addr.mk.injEq] at e; omega)]; exact h.a
 ·
  rw [hd _ (by intro e; rw [Addr.mk.injEq] at e; omega)]; exact h.k
 ·
  have := h.z0; simpa [go_sem] using this
 ·
  have := h.z2; simpa [go_sem] using this
 ·
  have := h.z3; simpa [go_sem] using this
theorem Rd.grown {w w' : World} {B S : Nat} {ts : Gr.Ts} {row : Option Nat} (h : Rd w B S ts) (hg : w.grownBy w' row) (hr : ∀ k, row = some k → B < k) : Rd w' B S ts := by
 have hb : ∀ k, k ≤ B → w'.heap[k]? = w.heap[k]? := fun k hk => hg.block k (Nat.lt_of_le_of_lt hk h.lt) (fun e => by have := hr k e.symm; omega)
 have hcell : ∀ {q : Addr}, q.block ≤ B → w'.cell? q = w.cell? q := fun {q} hq => World.cell?_of_block (w := w) (hb q.block hq)
 have hfr : ∀ {q : Addr}, q.block ≤ B → w'.frozen? q = w.frozen? q := fun {q} hq => World.frozen?_of_block (w := w) (hb q.block hq)
 obtain ⟨v, h0, h1⟩ := h.rest
 refine ⟨Nat.lt_of_lt_of_le h.lt hg.size, ⟨v, (hcell (Nat.le_refl _)).trans h0, ?_⟩, (hcell (Nat.le_refl _)).trans h.e, (hcell (Nat.le_refl _)).trans h.a, (hcell (Nat.le_refl _)).trans h.k, (hfr (Nat.le_refl _)).trans h.z0, (hfr (Nat.le_refl _)).trans h.z2, (hfr (Nat.le_refl _)).trans h.z3, h.ok, h.len, h.small⟩
 rcases h1 with ⟨b, o, c, hv, hn, hl, hc⟩ | h1
 ·
  exact .inl ⟨b, o, c, hv, hn, hl, fun j v hv => (hcell (Nat.le_of_lt hn)).trans (hc j v hv)⟩
 ·
  exact .inr h1
theorem own_bes {B base : Nat} {w w' : World} {e : TypeId} {size n : Nat} {v : Value} {xs : List Value} (h : w.ownsRow base e size v n xs) (hb : Bes B w w') (hB : B < base) : w'.ownsRow base e size v n xs := by
 refine ⟨h.1, h.2.imp id ?_⟩
 rintro ⟨g, cap, cur, hv, hg, hh, r⟩
 have hlt : g < w.heap.size := by
  rcases Nat.lt_or_ge g w.heap.size with h1 | h1
  ·
   exact h1
  ·
   rw [Array.getElem?_eq_none h1] at hh; cases hh
 exact ⟨g, cap, cur, hv, hg, (hb.block g hlt (by omega)).trans hh, r⟩
theorem own_row {w : World} {base : Nat} {e : TypeId} {size : Nat} {v : Value} {n : Nat} {xs : List Value} (h : w.ownsRow base e size v n xs) : ∀ j, v.ownBlock = some j → base ≤ j := fun j ej => (h.lt j ej).1
theorem own_shape {w : World} {base : Nat} {e : TypeId} {size : Nat} {v : Value} {n : Nat} {xs : List Value} (h : w.ownsRow base e size v n xs) : ∃ a c, v = .slice a n c := by
 rcases h.2 with ⟨hv, hn⟩ | ⟨g, cap, cur, hv, -⟩
 ·
  subst hn; exact ⟨_, _, hv⟩
 ·
  exact ⟨_, _, hv⟩
theorem own_new {w : World} {base : Nat} {e : TypeId} {size : Nat} {v : Value} {n : Nat} {xs : List Value} (h : w.ownsRow base e size v n xs) {k : Nat} (hk : w.heap.size ≤ k) : some k ≠ v.ownBlock := fun e => by
 have := (h.lt k e.symm).2
 omega
theorem Tx.own {w : World} {base n : Nat} {v : Value} {xs : List ByteArray} (h : w.ownsRow base 9 1 v n (xs.map Value.string)) : Tx w (Ge base) v xs := by
 obtain ⟨hl, h⟩ := h
 rw [List.length_map] at hl
 rcases h with ⟨hv, hn⟩ | ⟨g, cap, cur, hv, hg, hh, hc, -, hz, ht⟩
 ·
  exact .inr ⟨List.eq_nil_of_length_eq_zero (by omega), _, _, by rw [hv]⟩
 ·
  refine .inl ⟨g, 0, cap, ?_, ?_, by omega, fun j x hx => ?_⟩
  ·
   rw [hv, show xs.length = n by omega]
  ·
   exact hg
  ·
   have h1 : cur.toList[j]? = some (.string x) := by
    have h2 : (cur.toList.take (n * 1))[j]? = some (.string x) := by rw [ht]; simp [hx]
    rw [List.getElem?_take] at h2
    split at h2
    ·
     exact h2
    ·
     cases h2
   have h3 : cur[j]? = some (.string x) := by rw [← Array.getElem?_toList]; exact h1
   show w.cell? ⟨g, 0 + j, none⟩ = _
   rw [Nat.zero_add, World.cell?]
   simp [hh, h3]
theorem Rd.save {w w' : World} {B S b : Nat} {ts : Gr.Ts} (h : Rd w B S ts) (hs : Save b w w') (hb : B < b) : Rd w' B S ts := by
 have hcell : ∀ {q : Addr}, q.block ≤ B → w'.cell? q = w.cell? q := fun {q} hq => hs.cell (by omega)
 have hfr : ∀ {q : Addr}, q.block ≤ B → w'.frozen? q = w.frozen? q := fun {q} hq => World.frozen?_of_block (w := w) (hs.block q.block (by omega))
 obtain ⟨v, h0, h1⟩ := h.rest
 refine ⟨by rw [hs.size]; exact h.lt, ⟨v, (hcell (Nat.le_refl _)).trans h0, ?_⟩, (hcell (Nat.le_refl _)).trans h.e, (hcell (Nat.le_refl _)).trans h.a, (hcell (Nat.le_refl _)).trans h.k, (hfr (Nat.le_refl _)).trans h.z0, (hfr (Nat.le_refl _)).trans h.z2, (hfr (Nat.le_refl _)).trans h.z3, h.ok, h.len, h.small⟩
 rcases h1 with ⟨b, o, c, hv, hn, hl, hc⟩ | h1
 ·
  exact .inl ⟨b, o, c, hv, hn, hl, fun j v hv => (hcell (Nat.le_of_lt hn)).trans (hc j v hv)⟩
 ·
  exact .inr h1
theorem Bes.save {B b : Nat} {a w w' : World} (h : Bes B a w) (hs : Save b w w') (hb : a.heap.size ≤ b) : Bes B a w' :=
 ⟨hs.os.trans h.os, hs.tape.trans h.tape, hs.output.trans h.output, by rw [hs.size]; exact h.size, fun k hk hB => (hs.block k (by omega)).trans (h.block k hk hB)⟩
theorem Keeps.save {m b : Nat} {w w' : World} (hs : Save b w w') (hb : b < m) : Keeps (Ge m) w w' := Keeps.of_save hs (fun h => by have : m ≤ b := h; omega)
theorem Bx.save {w w' : World} {M b : Nat} {vs : List Value} (h : Bx w b vs) (hs : Save M w w') (hb : b ≠ M) : Bx w' b vs :=
 ⟨fun j v hv => (hs.cell hb).trans (h.c j v hv), fun j hj => (World.frozen?_of_block (w := w) (hs.block b hb)).trans (h.z j hj)⟩
theorem Save.alloc2 {b : Nat} {w w' : World} (h : Save b w w') (o : Obj) : Save b (w.alloc o) (w'.alloc o) :=
 ⟨h.os, h.tape, h.output, by simp [h.size], fun k hk => by
  show (w'.heap.push o)[k]? = (w.heap.push o)[k]?
  rw [Array.getElem?_push, Array.getElem?_push, h.size, h.block k hk]⟩
theorem AtL.mk2 {w : World} {m n s : Nat} {va vb : List Value} {a b : Nd} (ha : At w (Ge m) n s va a) (hb : At w (Ge m) n s vb b) (hm : m ≤ w.heap.size) (t : TypeId) (hs : va.length = Nd.size s) (hs2 : vb.length = Nd.size s) : AtL (w.alloc (.cells (va ++ vb).toArray t)) (Ge m) n s (.slice (some ⟨w.heap.size, 0, none⟩) 2 2) [a, b] := by
 refine .inl ⟨w.heap.size, 0, 2, rfl, hm, Nat.le_refl _, by unfold maxLen; simp, fun i x hx => ?_⟩
 match i, hx with
 | 0, hx =>
  cases hx
  refine ⟨va, hs, fun j v hv => ?_, At.move (Keeps.of_below (bl_alloc (Below.refl _ _) _)) (fun _ h => h) _ _ _ _ ha⟩
  rw [World.cell?_alloc_at _ _ _ _ rfl]
  have hj := (List.getElem?_eq_some_iff.1 hv).1
  simp [List.getElem?_append_left hj, hv]
 | 1, hx =>
  cases hx
  refine ⟨vb, hs2, fun j v hv => ?_, At.move (Keeps.of_below (bl_alloc (Below.refl _ _) _)) (fun _ h => h) _ _ _ _ hb⟩
  rw [World.cell?_alloc_at _ _ _ _ rfl]
  simp [← hs, List.getElem?_append_right, hv]
def Gr.place (S : Nat) : Gr.Ts → Int
 | [] => (S : Int)
 | t :: _ => ((S - t.left : Nat) : Int)
def Gr.at0 (S : Nat) : Gr.Ts → Int
 | [] => 0
 | t :: _ => ((S - t.left : Nat) : Int)
def Gr.tokV (S : Nat) (ts : Gr.Ts) : Value := .agg #[.int .i64 (Gr.kd ts : Int), .string (Gr.hd ts), .int .i64 (Gr.hn ts : Int), .int .i64 (Gr.at0 S ts)]
def Gr.pe (p c : Int) : PanicEntry := { v := .iface 72 (.agg #[.int .i64 p, .int .i64 c]), recovered := false }
theorem pn_all (T : TypeId) (v : Value) (w : World) : (Instr.panic (.iface T v)).run Tryz.prog w = .halt (.panic (.iface T v)) w := rfl

set_option maxHeartbeats 1000000 in
set_option maxRecDepth 100000 in
theorem gr_goes (w : World) (B S : Nat) (ts : Gr.Ts) (h : Rd w B S ts) :
  Calls Tryz.prog 30 #[.pointer (some ⟨B, 0, none⟩)] w fun e w' => e = .returned (.bool true) ∧ w' = w := by
 have hk := h.k
 clear h
 go_enter Tryz.func30, Tryz.ntmps30
 go_wp2
 go_ret
 exact ⟨rfl, rfl⟩

set_option maxHeartbeats 1000000 in
set_option maxRecDepth 100000 in
theorem gr_next (w : World) (B S : Nat) (ts : Gr.Ts) (h : Rd w B S ts) :
  Calls Tryz.prog 32 #[.pointer (some ⟨B, 0, none⟩)] w fun e w' => e = .returned (.tuple #[Gr.tokV S ts, .bool (decide (ts ≠ []))]) ∧ Below w.heap.size w w' := by
 have q : Hid (∀ ob, Calls Tryz.prog 30 #[.pointer (some ⟨B, 0, none⟩)] (w.alloc ob) fun e w' => e = .returned (.bool true) ∧ w' = w.alloc ob) := fun ob => gr_goes _ B S ts (h.alloc ob)
 have hlt := h.lt
 cases ts with
 | nil =>
  obtain ⟨p, c, h0⟩ := h.form
  clear h
  go_enter Tryz.func32, Tryz.ntmps32
  go_wp2_with (go_at_call 30; refine (q.out _).mono ?_; rintro e w1 ⟨rfl, hw1⟩; rw [hw1]; clear hw1 w1)
  refine bodyPost_ret (v := .tuple #[.agg #[.int .i64 0, .string ⟨#[]⟩, .int .i64 0, .int .i64 0], .bool false]) (by rw [results_cell_tmp rfl]; simp [go_sem]) rfl ⟨rfl, ?_⟩
  exact bl_alloc (Below.refl _ _) _
 | cons t r =>
  obtain ⟨b, o, c, h0, hn, hl, c0, c1, c2, c3, -⟩ := h.cons
  have hb : b < w.heap.size := World.block_lt_of_cell? w _ c0
  have hz : (((r.length : Nat) : Int) + 1 == 0) = false := by rw [beq_eq_false_iff_ne]; omega
  clear h
  go_enter Tryz.func32, Tryz.ntmps32
  go_wp2_with (go_at_call 30; refine (q.out _).mono ?_; rintro e w1 ⟨rfl, hw1⟩; rw [hw1]; clear hw1 w1)
  refine bodyPost_ret (v := .tuple #[.agg #[.int .i64 (t.kind : Int), .string (Gr.tx t), .int .i64 (t.n : Int), .int .i64 ((S - t.left : Nat) : Int)], .bool true]) (by rw [results_cell_tmp rfl]; simp [go_sem]) rfl ⟨rfl, ?_⟩
  exact bl_alloc (Below.refl _ _) _

theorem grStr_eq (x y : ByteArray) : (x.toList == y.toList) = decide (x = y) := by
 rw [Lib.toList_data, Lib.toList_data, Bool.eq_iff_iff, beq_iff_eq, decide_eq_true_iff]
 constructor
 ·
  intro h
  cases x; cases y; congr 1; exact Array.toList_inj.1 h
 ·
  rintro rfl; rfl
theorem Gr.isT_eq (x : ByteArray) (t : Lx.Tok) (r : Gr.Ts) : Gr.isT x.data.toList (t :: r) = ((decide (t.kind = 3) || decide (t.kind = 6)) && decide (Gr.tx t = x)) := by
 have : (t.text = x.data.toList) ↔ (Gr.tx t = x) := by
  unfold Gr.tx
  constructor
  ·
   intro h; rw [h]
  ·
   intro h; rw [← h]
 unfold Gr.isT
 simp only
 rw [decide_eq_decide.2 this]

set_option maxHeartbeats 1000000 in
set_option maxRecDepth 100000 in
theorem gr_is (w : World) (B S : Nat) (ts : Gr.Ts) (h : Rd w B S ts) (x : ByteArray) (b : Bool) (hb : Gr.isT x.data.toList ts = b) :
  Calls Tryz.prog 33 #[.pointer (some ⟨B, 0, none⟩), .string x] w fun e w' => e = .returned (.bool b) ∧ Below w.heap.size w w' := by
 have q : Hid (Calls Tryz.prog 32 #[.pointer (some ⟨B, 0, none⟩)] w fun e w' => e = .returned (.tuple #[Gr.tokV S ts, .bool (decide (ts ≠ []))]) ∧ Below w.heap.size w w') := gr_next w B S ts h
 clear h
 cases ts with
 | nil =>
  have hb2 : b = false := hb.symm
  subst hb2
  clear hb
  unfold Gr.tokV Gr.kd Gr.hd Gr.hn Gr.at0 at q
  go_enter Tryz.func33, Tryz.ntmps33
  go_wp2_with (go_at_call 32; refine q.out.mono ?_; rintro e w1 ⟨rfl, hB1⟩)
  go_ret
  exact ⟨rfl, bl_alloc hB1 _⟩
 | cons t r =>
  rw [Gr.isT_eq] at hb
  unfold Gr.tokV Gr.kd Gr.hd Gr.hn Gr.at0 at q
  obtain ⟨E, hE⟩ : ∃ E, ((Gr.tx t).toList == x.toList) = E := ⟨_, rfl⟩
  rw [← grStr_eq, hE] at hb
  obtain ⟨K, hK⟩ : ∃ K, t.kind = K := ⟨_, rfl⟩
  have q2 : Hid (Calls Tryz.prog 32 #[.pointer (some ⟨B, 0, none⟩)] w fun e w' => e = .returned (.tuple #[.agg #[.int .i64 (K : Int), .string (Gr.tx t), .int .i64 (t.n : Int), .int .i64 ((S - t.left : Nat) : Int)], .bool true]) ∧ Below w.heap.size w w') := by rw [← hK]; exact q
  rw [hK] at hb
  clear q hK
  have q := q2
  clear q2
  by_cases h3 : K = 3
  ·
   subst h3
   cases E with
   | true =>
    have hb2 : b = true := by rw [← hb]; rfl
    subst hb2
    clear hb
    go_enter Tryz.func33, Tryz.ntmps33
    go_wp2_with (go_at_call 32; refine q.out.mono ?_; rintro e w1 ⟨rfl, hB1⟩)
    go_ret
    exact ⟨rfl, bl_alloc hB1 _⟩
   | false =>
    have hb2 : b = false := by rw [← hb]; rfl
    subst hb2
    clear hb
    go_enter Tryz.func33, Tryz.ntmps33
    go_wp2_with (go_at_call 32; refine q.out.mono ?_; rintro e w1 ⟨rfl, hB1⟩)
    go_ret
    exact ⟨rfl, bl_alloc hB1 _⟩
  ·
   by_cases h6 : K = 6
   ·
    subst h6
    cases E with
    | true =>
     have hb2 : b = true := by rw [← hb]; rfl
     subst hb2
     clear hb
     go_enter Tryz.func33, Tryz.ntmps33
     go_wp2_with (go_at_call 32; refine q.out.mono ?_; rintro e w1 ⟨rfl, hB1⟩)
     go_ret
     exact ⟨rfl, bl_alloc hB1 _⟩
    | false =>
     have hb2 : b = false := by rw [← hb]; rfl
     subst hb2
     clear hb
     go_enter Tryz.func33, Tryz.ntmps33
     go_wp2_with (go_at_call 32; refine q.out.mono ?_; rintro e w1 ⟨rfl, hB1⟩)
     go_ret
     exact ⟨rfl, bl_alloc hB1 _⟩
   ·
    have hb2 : b = false := by rw [← hb]; simp [h3, h6]
    subst hb2
    clear hb
    have hk3 : ((K : Int) == 3) = false := by rw [beq_eq_false_iff_ne]; omega
    have hk6 : ((K : Int) == 6) = false := by rw [beq_eq_false_iff_ne]; omega
    clear h3 h6
    go_enter Tryz.func33, Tryz.ntmps33
    go_wp2_with (go_at_call 32; refine q.out.mono ?_; rintro e w1 ⟨rfl, hB1⟩)
    go_ret
    exact ⟨rfl, bl_alloc hB1 _⟩

set_option maxHeartbeats 1000000 in
set_option maxRecDepth 100000 in
theorem gr_step (w : World) (B S : Nat) (t : Lx.Tok) (r : Gr.Ts) (h : Rd w B S (t :: r)) :
  Calls Tryz.prog 34 #[.pointer (some ⟨B, 0, none⟩)] w fun e w' => e = .returned (.tuple #[]) ∧ Rd w' B S r ∧ Bes B w w' := by
 obtain ⟨b, o, c, h0, hn, hl, c0, c1, c2, c3, h4⟩ := h.cons
 have H : Hid (∀ k, k = r.length → Rd (w.setCell ⟨B, 0, none⟩ (.slice (some ⟨b, o + 4, none⟩) k (c - 1))) B S r) := fun k hk => h.next (fun t ht => List.mem_cons_of_mem _ ht) (by simp) (.inl ⟨b, o + 4, c - 1, by rw [hk], hn, by omega, h4⟩)
 have H1 : Hid (c = 1 → ∀ k, k = r.length → Rd (w.setCell ⟨B, 0, none⟩ (.slice (some ⟨b, o, none⟩) k 0)) B S r) := fun hc k hk => h.next (fun t ht => List.mem_cons_of_mem _ ht) (by simp) (by
  have : r = [] := List.eq_nil_of_length_eq_zero (by omega)
  subst this
  exact .inr ⟨rfl, _, _, by rw [hk]; rfl⟩)
 have z0 := h.z0
 have hl2 := h.len
 clear h h4 c0 c1 c2 c3
 go_enter Tryz.func34, Tryz.ntmps34
 go_wp2
 ·
  go_end0
  exact ⟨rfl, H1.out (by assumption) _ rfl, (Bes.refl _ _).set _ _⟩
 ·
  go_end0
  exact ⟨rfl, H.out _ rfl, (Bes.refl _ _).set _ _⟩

set_option maxHeartbeats 1000000 in
set_option maxRecDepth 100000 in
theorem gr_place (w : World) (B S : Nat) (ts : Gr.Ts) (h : Rd w B S ts) :
  Calls Tryz.prog 65 #[.pointer (some ⟨B, 0, none⟩)] w fun e w' => e = .returned (.int .i64 (Gr.place S ts)) ∧ w' = w := by
 cases ts with
 | nil =>
  obtain ⟨p, c, h0⟩ := h.form
  have he := h.e
  clear h
  go_enter Tryz.func65, Tryz.ntmps65
  go_wp2
  go_ret
  exact ⟨rfl, rfl⟩
 | cons t r =>
  obtain ⟨b, o, c, h0, hn, hl, c0, c1, c2, c3, -⟩ := h.cons
  have hz : (((r.length : Nat) : Int) + 1 == 0) = false := by rw [beq_eq_false_iff_ne]; omega
  clear h
  go_enter Tryz.func65, Tryz.ntmps65
  go_wp2
  go_ret
  exact ⟨rfl, rfl⟩

set_option maxHeartbeats 1000000 in
set_option maxRecDepth 100000 in
theorem gr_take (w : World) (B S : Nat) (ts : Gr.Ts) (h : Rd w B S ts) (x : ByteArray) (b : Bool) (hb : Gr.isT x.data.toList ts = b) :
  Calls Tryz.prog 15 #[.pointer (some ⟨B, 0, none⟩), .string x] w fun e w' => e = .returned (.bool b) ∧ Rd w' B S (bif b then ts.tail else ts) ∧ Bes B w w' := by
 have q : Hid (Calls Tryz.prog 33 #[.pointer (some ⟨B, 0, none⟩), .string x] w fun e w' => e = .returned (.bool b) ∧ Below w.heap.size w w') := gr_is w B S ts h x b hb
 cases b with
 | false =>
  have H : Hid (Rd w B S ts) := h
  clear h hb
  go_enter Tryz.func15, Tryz.ntmps15
  go_wp2_with (go_at_call 33; refine q.out.mono ?_; rintro e w1 ⟨rfl, hB1⟩)
  go_ret
  exact ⟨rfl, H.out.below hB1, Bes.of_below hB1⟩
 | true =>
  cases ts with
  | nil => cases hb
  | cons t r =>
   have q2 : Hid (∀ w', Below w.heap.size w w' → Calls Tryz.prog 34 #[.pointer (some ⟨B, 0, none⟩)] w' fun e w'' => e = .returned (.tuple #[]) ∧ Rd w'' B S r ∧ Bes B w' w'') := fun w' h' => gr_step w' B S t r (h.below h')
   clear h hb
   go_enter Tryz.func15, Tryz.ntmps15
   go_wp2_with (first | (go_at_call 33; refine q.out.mono ?_; rintro e w1 ⟨rfl, hB1⟩) | (go_at_call 34; refine (q2.out _ hB1).mono ?_; rintro e w2 ⟨rfl, hR, hB2⟩))
   go_ret
   exact ⟨rfl, hR, (Bes.of_below hB1).trans hB2⟩

set_option maxHeartbeats 1000000 in
set_option maxRecDepth 100000 in
theorem gr_giveUp (w : World) (B S : Nat) (ts : Gr.Ts) (h : Rd w B S ts) :
  Calls Tryz.prog 37 #[.pointer (some ⟨B, 0, none⟩)] w fun e w' => e = .panicked [Gr.pe (Gr.place S ts) 11] ∧ w' = w := by
 have q : Hid (Calls Tryz.prog 65 #[.pointer (some ⟨B, 0, none⟩)] w fun e w' => e = .returned (.int .i64 (Gr.place S ts)) ∧ w' = w) := gr_place w B S ts h
 have hp := pn_all
 clear h
 go_enter Tryz.func37, Tryz.ntmps37
 go_wp2_with (go_at_call 65; refine q.out.mono ?_; rintro e w1 ⟨rfl, hw1⟩; rw [hw1]; clear hw1 w1)
 exact ⟨rfl, rfl, rfl⟩

set_option maxHeartbeats 1000000 in
set_option maxRecDepth 100000 in
theorem gr_need_no (w : World) (B S : Nat) (ts : Gr.Ts) (h : Rd w B S ts) (x : ByteArray) (hb : Gr.isT x.data.toList ts = false) :
  Calls Tryz.prog 17 #[.pointer (some ⟨B, 0, none⟩), .string x] w fun e w' => e = .panicked [Gr.pe (Gr.place S ts) 11] ∧ Rd w' B S ts ∧ Bes B w w' := by
 have q2 : Hid (∀ w', Rd w' B S ts → Calls Tryz.prog 37 #[.pointer (some ⟨B, 0, none⟩)] w' fun e w'' => e = .panicked [Gr.pe (Gr.place S ts) 11] ∧ w'' = w') := fun w' h' => gr_giveUp w' B S ts h'
 have q3 : Hid (Calls Tryz.prog 15 #[.pointer (some ⟨B, 0, none⟩), .string x] w fun e w' => e = .returned (.bool false) ∧ Rd w' B S ts ∧ Bes B w w') := gr_take w B S ts h x false hb
 clear h hb
 go_enter Tryz.func17, Tryz.ntmps17
 go_wp2_with (first | (go_at_call 15; refine q3.out.mono ?_; rintro e w1 ⟨rfl, hR, hB1⟩) | (go_at_call 37; refine (q2.out _ hR).mono ?_; rintro e w2 ⟨rfl, hw2⟩; rw [hw2]; clear hw2 w2))
 exact ⟨rfl, rfl, hR, hB1⟩

set_option maxHeartbeats 1000000 in
set_option maxRecDepth 100000 in
theorem gr_need_yes (w : World) (B S : Nat) (ts : Gr.Ts) (h : Rd w B S ts) (x : ByteArray) (hb : Gr.isT x.data.toList ts = true) :
  Calls Tryz.prog 17 #[.pointer (some ⟨B, 0, none⟩), .string x] w fun e w' => e = .returned (.tuple #[]) ∧ Rd w' B S ts.tail ∧ Bes B w w' := by
 have q3 : Hid (Calls Tryz.prog 15 #[.pointer (some ⟨B, 0, none⟩), .string x] w fun e w' => e = .returned (.bool true) ∧ Rd w' B S ts.tail ∧ Bes B w w') := gr_take w B S ts h x true hb
 clear h hb
 go_enter Tryz.func17, Tryz.ntmps17
 go_wp2_with (go_at_call 15; refine q3.out.mono ?_; rintro e w1 ⟨rfl, hR, hB1⟩)
 go_end0
 exact ⟨rfl, hR, hB1⟩

set_option maxHeartbeats 1000000 in
set_option maxRecDepth 100000 in
theorem gr_name_no (w : World) (B S : Nat) (ts : Gr.Ts) (h : Rd w B S ts) (k : Nat) (hk : Gr.kd ts ≠ k) :
  Calls Tryz.prog 140 #[.pointer (some ⟨B, 0, none⟩), .int .i64 (k : Int)] w fun e w' => e = .panicked [Gr.pe (Gr.place S ts) 11] ∧ Rd w' B S ts ∧ Bes B w w' := by
 have q2 : Hid (∀ w', Rd w' B S ts → Calls Tryz.prog 37 #[.pointer (some ⟨B, 0, none⟩)] w' fun e w'' => e = .panicked [Gr.pe (Gr.place S ts) 11] ∧ w'' = w') := fun w' h' => gr_giveUp w' B S ts h'
 have q3 : Hid (Calls Tryz.prog 32 #[.pointer (some ⟨B, 0, none⟩)] w fun e w' => e = .returned (.tuple #[Gr.tokV S ts, .bool (decide (ts ≠ []))]) ∧ Below w.heap.size w w') := gr_next w B S ts h
 have HR : Hid (Rd w B S ts) := h
 have hne : ((Gr.kd ts : Int) == (k : Int)) = false := by rw [beq_eq_false_iff_ne]; omega
 clear h hk
 unfold Gr.tokV at q3
 generalize (Gr.kd ts : Int) = K at *
 go_enter Tryz.func140, Tryz.ntmps140
 go_wp2_with (first | (go_at_call 32; refine q3.out.mono ?_; rintro e w1 ⟨rfl, hB1⟩) | (go_at_call 37; refine (q2.out _ (HR.out.below (bl_alloc hB1 _))).mono ?_; rintro e w2 ⟨rfl, hw2⟩; rw [hw2]; clear hw2 w2))
 exact ⟨rfl, rfl, HR.out.below (bl_alloc hB1 _), Bes.of_below (bl_alloc hB1 _)⟩

set_option maxHeartbeats 1000000 in
set_option maxRecDepth 100000 in
theorem gr_name_yes (w : World) (B S : Nat) (ts : Gr.Ts) (h : Rd w B S ts) (k : Nat) (hk : Gr.kd ts = k + 1) :
  Calls Tryz.prog 140 #[.pointer (some ⟨B, 0, none⟩), .int .i64 ((k + 1 : Nat) : Int)] w fun e w' => e = .returned (.string (Gr.hd ts)) ∧ Rd w' B S ts.tail ∧ Bes B w w' := by
 cases ts with
 | nil => cases hk
 | cons t r =>
  have q2 : Hid (∀ w', Below w.heap.size w w' → Calls Tryz.prog 34 #[.pointer (some ⟨B, 0, none⟩)] w' fun e w'' => e = .returned (.tuple #[]) ∧ Rd w'' B S r ∧ Bes B w' w'') := fun w' h' => gr_step w' B S t r (h.below h')
  have q3 : Hid (Calls Tryz.prog 32 #[.pointer (some ⟨B, 0, none⟩)] w fun e w' => e = .returned (.tuple #[Gr.tokV S (t :: r), .bool true]) ∧ Below w.heap.size w w') := gr_next w B S (t :: r) h
  have hlt := h.lt
  clear h
  unfold Gr.tokV at q3
  rw [hk] at q3
  generalize hK : ((k + 1 : Nat) : Int) = K at *
  generalize Gr.hd (t :: r) = T at *
  clear hK hk
  go_enter Tryz.func140, Tryz.ntmps140
  go_wp2_with (first | (go_at_call 32; refine q3.out.mono ?_; rintro e w1 ⟨rfl, hB1⟩) | (go_at_call 34; refine (q2.out _ (bl_alloc hB1 _)).mono ?_; rintro e w2 ⟨rfl, hR, hB2⟩; have x1 : w2.cell? ⟨w1.heap.size, 1, none⟩ = some (.string T) := (hB2.cell (by simp) (by have := hB1.size; simp; omega)).trans (by simp [go_sem])))
  go_ret
  exact ⟨rfl, hR, (Bes.of_below (bl_alloc hB1 _)).trans hB2⟩
def Gr.idx (a c : Bool) : Int := if a = true then 0 else if c = true then 1 else -1
def Gr.At2 (w : World) (a c : Bool) (v : Value) (wr : World) : Prop := Below w.heap.size w wr ∧ (v = .int .i64 0 ∨ (v = .int .i64 1 ∧ a = false) ∨ (v = .int .i64 2 ∧ a = false ∧ c = false))

set_option maxHeartbeats 1000000 in
set_option maxRecDepth 100000 in
theorem gr_indexF (w : World) (B S : Nat) (ts : Gr.Ts) (h : Rd w B S ts) (b : Nat) (x y : ByteArray) (c0 : w.cell? ⟨b, 0, none⟩ = some (.string x)) (c1 : w.cell? ⟨b, 1, none⟩ = some (.string y)) (a c : Bool) (ha : Gr.isT x.data.toList ts = a) (hc : Gr.isT y.data.toList ts = c) :
  Calls Tryz.prog 101 #[.slice (some ⟨b, 0, none⟩) 2 2, .func (.func 33) #[.pointer (some ⟨B, 0, none⟩)] #[]] w fun e w' => e = .returned (.int .i64 (Gr.idx a c)) ∧ Below w.heap.size w w' := by
 have hb : b < w.heap.size := World.block_lt_of_cell? w _ c0
 have q0 : Hid (∀ w', Below w.heap.size w w' → Calls Tryz.prog 33 #[.pointer (some ⟨B, 0, none⟩), .string x] w' fun e w'' => e = .returned (.bool a) ∧ Below w'.heap.size w' w'') := fun w' h' => gr_is w' B S ts (h.below h') x a ha
 have q1 : Hid (∀ w', Below w.heap.size w w' → Calls Tryz.prog 33 #[.pointer (some ⟨B, 0, none⟩), .string y] w' fun e w'' => e = .returned (.bool c) ∧ Below w'.heap.size w' w'') := fun w' h' => gr_is w' B S ts (h.below h') y c hc
 clear ha hc h
 go_enter Tryz.func101, Tryz.ntmps101
 go_wp2
 go_loopw [8] (Gr.At2 w a c) (fun v _ => 2 - (intOf v).toNat)
 case atStart => exact ⟨Below.refl _ _, .inl rfl⟩
 case round =>
  obtain ⟨hB, hrel⟩ := hrel
  have d0 : wr.cell? ⟨b, 0, none⟩ = some (.string x) := (hB.cell hb).trans c0
  have d1 : wr.cell? ⟨b, 1, none⟩ = some (.string y) := (hB.cell hb).trans c1
  rcases hrel with rfl | ⟨rfl, rfl⟩ | ⟨rfl, rfl, rfl⟩
  ·
   cases a with
   | true =>
    go_wp2_with (go_at_call 33; refine (q0.out _ hB).mono ?_; rintro e w1 ⟨rfl, hb1⟩; have hB1 := bl_tr hB hb1)
    go_ret
    exact ⟨rfl, hB1⟩
   | false =>
    go_wp2_with (go_at_call 33; refine (q0.out _ hB).mono ?_; rintro e w1 ⟨rfl, hb1⟩; have hB1 := bl_tr hB hb1)
    go_roundw
    case rel => exact ⟨hB1, .inr (.inl ⟨rfl, rfl⟩)⟩
    case measure => simp [intOf]
  ·
   cases c with
   | true =>
    go_wp2_with (go_at_call 33; refine (q1.out _ hB).mono ?_; rintro e w1 ⟨rfl, hb1⟩; have hB1 := bl_tr hB hb1)
    go_ret
    exact ⟨rfl, hB1⟩
   | false =>
    go_wp2_with (go_at_call 33; refine (q1.out _ hB).mono ?_; rintro e w1 ⟨rfl, hb1⟩; have hB1 := bl_tr hB hb1)
    go_roundw
    case rel => exact ⟨hB1, .inr (.inr ⟨rfl, rfl, rfl⟩)⟩
    case measure => simp [intOf]
  ·
   go_wp2
   go_ret
   exact ⟨rfl, hB⟩

set_option maxHeartbeats 1000000 in
set_option maxRecDepth 100000 in
theorem gr_containsF (w : World) (B S : Nat) (ts : Gr.Ts) (h : Rd w B S ts) (b : Nat) (x y : ByteArray) (c0 : w.cell? ⟨b, 0, none⟩ = some (.string x)) (c1 : w.cell? ⟨b, 1, none⟩ = some (.string y)) (r : Bool) (hr : (Gr.isT x.data.toList ts || Gr.isT y.data.toList ts) = r) :
  Calls Tryz.prog 68 #[.slice (some ⟨b, 0, none⟩) 2 2, .func (.func 33) #[.pointer (some ⟨B, 0, none⟩)] #[]] w fun e w' => e = .returned (.bool r) ∧ Below w.heap.size w w' := by
 obtain ⟨k, hk, hkr⟩ : ∃ k : Int, Gr.idx (Gr.isT x.data.toList ts) (Gr.isT y.data.toList ts) = k ∧ decide (k ≥ 0) = r := by
  refine ⟨_, rfl, ?_⟩
  rw [← hr]
  cases Gr.isT x.data.toList ts <;> cases Gr.isT y.data.toList ts <;> rfl
 have q : Hid (Calls Tryz.prog 101 #[.slice (some ⟨b, 0, none⟩) 2 2, .func (.func 33) #[.pointer (some ⟨B, 0, none⟩)] #[]] w fun e w' => e = .returned (.int .i64 k) ∧ Below w.heap.size w w') := by rw [← hk]; exact gr_indexF w B S ts h b x y c0 c1 _ _ rfl rfl
 clear h c0 c1 hr hk
 go_enter Tryz.func68, Tryz.ntmps68
 go_wp2_with (go_at_call 101; refine q.out.mono ?_; rintro e w1 ⟨rfl, hb1⟩)
 go_ret
 exact ⟨by first | rfl | simp [hkr], hb1⟩
theorem mf_any (fn : Fn) (first cap : Array Value) (w : World) : (Instr.makeFunc fn first cap).run Tryz.prog w = .ok (.func fn first cap) w := rfl

set_option maxHeartbeats 1000000 in
set_option maxRecDepth 100000 in
theorem gr_op_no (w : World) (B S : Nat) (ts : Gr.Ts) (h : Rd w B S ts) (b : Nat) (x y : ByteArray) (c0 : w.cell? ⟨b, 0, none⟩ = some (.string x)) (c1 : w.cell? ⟨b, 1, none⟩ = some (.string y)) (hx : Gr.isT x.data.toList ts = false) (hy : Gr.isT y.data.toList ts = false) :
  Calls Tryz.prog 39 #[.pointer (some ⟨B, 0, none⟩), .slice (some ⟨b, 0, none⟩) 2 2] w fun e w' => e = .returned (.int .i64 0) ∧ Rd w' B S ts ∧ Bes B w w' := by
 have q := gr_containsF w B S ts h b x y c0 c1 false (by rw [hx, hy]; rfl)
 have hmf := mf_any
 have H : Hid (Rd w B S ts) := h
 clear h c0 c1 hx hy
 go_enter Tryz.func39, Tryz.ntmps39
 go_wp2_with (go_at_call 68; refine q.mono ?_; rintro e w1 ⟨rfl, hb1⟩)
 go_ret
 exact ⟨rfl, H.out.below hb1, Bes.of_below hb1⟩

def Gr.opOf (c : UInt8) : Int := if c = 43 then 1 else if c = 45 then 2 else if c = 42 then 3 else if c = 47 then 4 else if c = 61 then 5 else 6

set_option maxHeartbeats 4000000 in
set_option maxRecDepth 100000 in
theorem gr_op_yes (w : World) (B S : Nat) (ts : Gr.Ts) (h : Rd w B S ts) (b : Nat) (x y : ByteArray) (c0 : w.cell? ⟨b, 0, none⟩ = some (.string x)) (c1 : w.cell? ⟨b, 1, none⟩ = some (.string y)) (hxy : (Gr.isT x.data.toList ts || Gr.isT y.data.toList ts) = true)
  (c : UInt8) (hc : c = 43 ∨ c = 45 ∨ c = 42 ∨ c = 47 ∨ c = 61 ∨ c = 60) (hd : Gr.hd ts = ⟨#[c]⟩) :
  Calls Tryz.prog 39 #[.pointer (some ⟨B, 0, none⟩), .slice (some ⟨b, 0, none⟩) 2 2] w fun e w' => e = .returned (.int .i64 (Gr.opOf c)) ∧ Rd w' B S ts.tail ∧ Bes B w w' := by
 have q := gr_containsF w B S ts h b x y c0 c1 true hxy
 have hmf := mf_any
 cases ts with
 | nil => cases hxy
 | cons t r =>
  have hlt := h.lt
  have q2 : Hid (∀ w', Below w.heap.size w w' → Calls Tryz.prog 34 #[.pointer (some ⟨B, 0, none⟩)] w' fun e w'' => e = .returned (.tuple #[]) ∧ Rd w'' B S r ∧ Bes B w' w'') := fun w' h' => gr_step w' B S t r (h.below h')
  have q3 : Hid (∀ w', Below w.heap.size w w' → Calls Tryz.prog 32 #[.pointer (some ⟨B, 0, none⟩)] w' fun e w'' => e = .returned (.tuple #[.agg #[.int .i64 (Gr.kd (t :: r) : Int), .string ⟨#[c]⟩, .int .i64 (Gr.hn (t :: r) : Int), .int .i64 (Gr.at0 S (t :: r))], .bool true]) ∧ Below w'.heap.size w' w'') := fun w' h' => by rw [← hd]; exact gr_next w' B S (t :: r) (h.below h')
  clear h c0 c1 hxy hd
  generalize (Gr.kd (t :: r) : Int) = n0 at *
  generalize (Gr.hn (t :: r) : Int) = n1 at *
  generalize Gr.at0 S (t :: r) = n2 at *
  rcases hc with rfl | rfl | rfl | rfl | rfl | rfl
  all_goals
   go_enter Tryz.func39, Tryz.ntmps39
   go_wp2_with (first | (go_at_call 68; refine q.mono ?_; rintro e w1 ⟨rfl, hb1⟩) | (go_at_call 32; refine (q3.out _ hb1).mono ?_; rintro e w2 ⟨rfl, hb2⟩; have hB2 := bl_tr hb1 hb2) | (go_at_call 34; refine (q2.out _ (bl_alloc hB2 _)).mono ?_; rintro e w3 ⟨rfl, hR, hB3⟩; have x1 := (hB3.cell (p := ⟨w2.heap.size, 1, none⟩) (by simp) (by have := hB2.size; simp; omega)).trans (by simp [go_sem]; rfl)))
   go_ret
   exact ⟨rfl, hR, (Bes.of_below (bl_alloc hB2 _)).trans hB3⟩
end Go.Proofs.YtjebepnphoeiaabGreatDoor
namespace Go.Proofs
open Go.Shelf
def Tryz.lays107_ren : Go.Shelf.Ren := ⟨fun | 107 => 99 | 108 => 117 | n => n, fun | 28 => 149 | 3 => 3 | 4 => 4 | 0 => 0 | n => n, fun | n => n⟩
theorem Tryz.lays107 : Go.Proofs.Lays.n107 Tryz.prog Tryz.lays107_ren := {
 mixed := by kernel_rfl
 f107 := Tryz.func99.trans (congrArg some (by kernel_rfl))
 f108 := Tryz.func117.trans (congrArg some (by kernel_rfl))
 t0 := Tryz.underlying0
 a0 := Tryz.isAgg0
 z0 := Tryz.sizeOf0
 v0 := Tryz.zeroValue0
 t3 := Tryz.underlying3
 a3 := Tryz.isAgg3
 z3 := Tryz.sizeOf3
 v3 := Tryz.zeroValue3
 t4 := Tryz.underlying4
 a4 := Tryz.isAgg4
 z4 := Tryz.sizeOf4
 v4 := Tryz.zeroValue4
 t28 := Tryz.underlying149
 a28 := Tryz.isAgg149
 z28 := Tryz.sizeOf149
 v28 := Tryz.zeroValue149 }
open Go.Lib in
theorem Tryz.slices_Contains_int (b off n c : Nat) (zs : List Int) (x : Int) (w : World) (hz : n ≤ zs.length) (hbig : n ≤ 9223372036854775807) (hc : ∀ j, j < zs.length → w.cell? ⟨b, off + j, none⟩ = some (.int .i64 (zs.getD j 0))) :
  Calls Tryz.prog 99 #[.slice (some ⟨b, off, none⟩) n c, .int .i64 x] w fun e w' => e = .returned (.bool ((zs.take n).contains x)) ∧ w' = w := Any.slices_Contains_int Tryz.lays107 b off n c zs x w hz hbig hc
end Go.Proofs
