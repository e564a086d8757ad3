/- Pieces: GrM. -/
import Derived.Test.YtjebepnphoeiaaaGreatDoorQac
namespace Go.Proofs.YtjebepnphoeiaaaGreatDoor
open Go.RowKit
set_option linter.unusedVariables false

structure Bes (B : Nat) (w w' : World) : Prop where
 os : w'.os = w.os
 tape : w'.tape = w.tape
 output : w'.output = w.output
 size : w.heap.size ≤ w'.heap.size
 block : ∀ k, k < w.heap.size → k ≠ B → w'.heap[k]? = w.heap[k]?
theorem Bes.refl (B : Nat) (w : World) : Bes B w w := ⟨rfl, rfl, rfl, Nat.le_refl _, fun _ _ _ => rfl⟩
theorem Bes.trans {B : Nat} {a b c : World} (h : Bes B a b) (k : Bes B b c) : Bes B a c :=
 ⟨k.os.trans h.os, k.tape.trans h.tape, k.output.trans h.output, Nat.le_trans h.size k.size, fun i hi hB => (k.block i (Nat.lt_of_lt_of_le hi h.size) hB).trans (h.block i hi hB)⟩
theorem Bes.of_below {B : Nat} {w w' : World} (h : Below w.heap.size w w') : Bes B w w' := ⟨h.os, h.tape, h.output, h.size, fun k hk _ => h.block k hk⟩
theorem Bes.below {B : Nat} {a w w' : World} (h : Bes B a w) (h2 : Below w.heap.size w w') : Bes B a w' := h.trans (Bes.of_below h2)
theorem Bes.alloc {B : Nat} {a w : World} (h : Bes B a w) (o : Obj) : Bes B a (w.alloc o) := h.below (bl_alloc (Below.refl _ _) o)
theorem Bes.drew {B : Nat} {a w : World} (h : Bes B a w) : Bes B a w.drew := h.below (Below.refl _ _).drew
theorem Bes.set {B : Nat} {a w : World} (h : Bes B a w) (j : Nat) (u : Value) : Bes B a (w.setCell ⟨B, j, none⟩ u) :=
 h.trans ⟨rfl, rfl, rfl, by simp [World.setCell], fun k hk hB => Below.heap_setCell _ _ _ _ hB⟩
theorem Bes.cell {B : Nat} {w w' : World} (h : Bes B w w') {p : Addr} (hp : p.block < w.heap.size) (hB : p.block ≠ B) : w'.cell? p = w.cell? p := World.cell?_of_block (w := w) (h.block p.block hp hB)
theorem Bes.frozen {B : Nat} {w w' : World} (h : Bes B w w') {p : Addr} (hp : p.block < w.heap.size) (hB : p.block ≠ B) : w'.frozen? p = w.frozen? p := World.frozen?_of_block (w := w) (h.block p.block hp hB)
def Ge (n : Nat) : Nat → Prop := fun b => n ≤ b
theorem Bes.keeps {B m : Nat} {w w' : World} (h : Bes B w w') (hm : B < m) : Keeps (Ge m) w w' := fun b o v hb hv => (h.cell (World.block_lt_of_cell? w _ hv) (by have : m ≤ b := hb; show b ≠ B; omega)).trans hv
theorem Bes.at {B m n s : Nat} {w w' : World} {vs : List Value} {nd : Nd} (h : Bes B w w') (hm : B < m) (ha : At w (Ge m) n s vs nd) : At w' (Ge m) n s vs nd := At.move (h.keeps hm) (fun _ h => h) _ _ _ _ ha
theorem Keeps.set {m : Nat} {w : World} {p : Addr} (hp : p.block < m) (u : Value) : Keeps (Ge m) w (w.setCell p u) := fun b o v hb hv => by
 rw [World.cell?_setCell_other _ _ _ _ (fun e => by subst e; have : m ≤ b := hb; simp at hp; omega)]; exact hv
theorem Ge.le {m n : Nat} (h : m ≤ n) : ∀ b, Ge n b → Ge m b := fun b hb => Nat.le_trans h hb
structure Bx (w : World) (b : Nat) (vs : List Value) : Prop where
 c : Cells w b 0 vs
 z : ∀ j, j < vs.length → w.frozen? ⟨b, j, none⟩ = false
theorem Bx.new (w : World) (vs : List Value) (t : TypeId) : Bx (w.alloc (.cells vs.toArray t)) w.heap.size vs := by
 refine ⟨fun j v hv => ?_, fun j hj => ?_⟩
 ·
  rw [World.cell?_alloc_at _ _ _ _ rfl]; simpa using hv
 ·
  simp [go_sem]
theorem Bx.lt {w : World} {b : Nat} {v : Value} {vs : List Value} (h : Bx w b (v :: vs)) : b < w.heap.size := World.block_lt_of_cell? w _ (h.c 0 v rfl)
theorem Bx.bes {B : Nat} {w w' : World} {b : Nat} {v : Value} {vs : List Value} (h : Bx w b (v :: vs)) (hb : Bes B w w') (hB : b ≠ B) : Bx w' b (v :: vs) :=
 ⟨fun j u hu => (hb.cell h.lt hB).trans (h.c j u hu), fun j hj => (hb.frozen h.lt hB).trans (h.z j hj)⟩
theorem Bx.below {w w' : World} {b : Nat} {v : Value} {vs : List Value} (h : Bx w b (v :: vs)) (hb : Below w.heap.size w w') : Bx w' b (v :: vs) :=
 ⟨fun j u hu => (hb.cell h.lt).trans (h.c j u hu), fun j hj => (hb.frozen h.lt).trans (h.z j hj)⟩
theorem Bx.e4 {w : World} {b : Nat} {v0 v1 v2 v3 : Value} (h : Bx w b [v0, v1, v2, v3]) : (w.cell? ⟨b, 0, none⟩ = some v0 ∧ w.cell? ⟨b, 1, none⟩ = some v1 ∧ w.cell? ⟨b, 2, none⟩ = some v2 ∧ w.cell? ⟨b, 3, none⟩ = some v3) ∧ w.frozen? ⟨b, 0, none⟩ = false ∧ w.frozen? ⟨b, 1, none⟩ = false ∧ w.frozen? ⟨b, 2, none⟩ = false ∧ w.frozen? ⟨b, 3, none⟩ = false := by
 have hc : ∀ j v, [v0, v1, v2, v3][j]? = some v → w.cell? ⟨b, j, none⟩ = some v := fun j v hv => by have := h.c j v hv; rw [Nat.zero_add] at this; exact this
 exact ⟨⟨hc 0 _ rfl, hc 1 _ rfl, hc 2 _ rfl, hc 3 _ rfl⟩, h.z 0 (by simp), h.z 1 (by simp), h.z 2 (by simp), h.z 3 (by simp)⟩
theorem Bx.e5 {w : World} {b : Nat} {v0 v1 v2 v3 v4 : Value} (h : Bx w b [v0, v1, v2, v3, v4]) : (w.cell? ⟨b, 0, none⟩ = some v0 ∧ w.cell? ⟨b, 1, none⟩ = some v1 ∧ w.cell? ⟨b, 2, none⟩ = some v2 ∧ w.cell? ⟨b, 3, none⟩ = some v3 ∧ w.cell? ⟨b, 4, none⟩ = some v4) ∧ w.frozen? ⟨b, 0, none⟩ = false ∧ w.frozen? ⟨b, 1, none⟩ = false ∧ w.frozen? ⟨b, 2, none⟩ = false ∧ w.frozen? ⟨b, 3, none⟩ = false ∧ w.frozen? ⟨b, 4, none⟩ = false := by
 have hc : ∀ j v, [v0, v1, v2, v3, v4][j]? = some v → w.cell? ⟨b, j, none⟩ = some v := fun j v hv => by have := h.c j v hv; rw [Nat.zero_add] at this; exact this
 exact ⟨⟨hc 0 _ rfl, hc 1 _ rfl, hc 2 _ rfl, hc 3 _ rfl, hc 4 _ rfl⟩, h.z 0 (by simp), h.z 1 (by simp), h.z 2 (by simp), h.z 3 (by simp), h.z 4 (by simp)⟩
theorem Bx.e8 {w : World} {b : Nat} {v0 v1 v2 v3 v4 v5 v6 v7 : Value} (h : Bx w b [v0, v1, v2, v3, v4, v5, v6, v7]) : (w.cell? ⟨b, 0, none⟩ = some v0 ∧ w.cell? ⟨b, 1, none⟩ = some v1 ∧ w.cell? ⟨b, 2, none⟩ = some v2 ∧ w.cell? ⟨b, 3, none⟩ = some v3 ∧ w.cell? ⟨b, 4, none⟩ = some v4 ∧ w.cell? ⟨b, 5, none⟩ = some v5 ∧ w.cell? ⟨b, 6, none⟩ = some v6 ∧ w.cell? ⟨b, 7, none⟩ = some v7) ∧ w.frozen? ⟨b, 0, none⟩ = false ∧ w.frozen? ⟨b, 1, none⟩ = false ∧ w.frozen? ⟨b, 2, none⟩ = false ∧ w.frozen? ⟨b, 3, none⟩ = false ∧ w.frozen? ⟨b, 4, none⟩ = false ∧ w.frozen? ⟨b, 5, none⟩ = false ∧ w.frozen? ⟨b, 6, none⟩ = false ∧ w.frozen? ⟨b, 7, none⟩ = false := by
 have hc : ∀ j v, [v0, v1, v2, v3, v4, v5, v6, v7][j]? = some v → w.cell? ⟨b, j, none⟩ = some v := fun j v hv => by have := h.c j v hv; rw [Nat.zero_add] at this; exact this
 exact ⟨⟨hc 0 _ rfl, hc 1 _ rfl, hc 2 _ rfl, hc 3 _ rfl, hc 4 _ rfl, hc 5 _ rfl, hc 6 _ rfl, hc 7 _ rfl⟩, h.z 0 (by simp), h.z 1 (by simp), h.z 2 (by simp), h.z 3 (by simp), h.z 4 (by simp), h.z 5 (by simp), h.z 6 (by simp), h.z 7 (by simp)⟩
theorem Bes.grown {B : Nat} {a w w' : World} {row : Option Nat} (h : Bes B a w) (hg : w.grownBy w' row) (hr : ∀ k, row = some k → a.heap.size ≤ k) : Bes B a w' :=
 ⟨hg.os.trans h.os, hg.tape.trans h.tape, hg.output.trans h.output, Nat.le_trans h.size hg.size, fun k hk hB => (hg.block k (Nat.lt_of_lt_of_le hk h.size) (fun e => by have := hr k e.symm; omega)).trans (h.block k hk hB)⟩
theorem Bes.under {B n : Nat} {w w' : World} (h : Bes B w w') (hB : n ≤ B) (hn : n ≤ w.heap.size) : Below n w w' := ⟨h.os, h.tape, h.output, h.size, fun k hk => h.block k (by omega) (by omega)⟩

structure Gr.TokOk (S : Nat) (t : Lx.Tok) : Prop where
 k1 : 1 ≤ t.kind
 k6 : t.kind ≤ 6
 len : t.text.length ≤ 4096
 tyv : t.kind = 5 → 1 ≤ t.text.length
 num : t.n ≤ 9223372036854775807
 left : t.left ≤ S
def Gr.cells (S : Nat) (t : Lx.Tok) : List Value := [.int .i64 (t.kind : Int), .string (Gr.tx t), .int .i64 (t.n : Int), .int .i64 ((S - t.left : Nat) : Int)]
def Tk (w : World) (B S : Nat) (v : Value) (ts : Gr.Ts) : Prop :=
 (∃ b o c, v = .slice (some ⟨b, o, none⟩) ts.length c ∧ b < B ∧ ts.length ≤ c ∧ Cells w b o (ts.flatMap (Gr.cells S))) ∨ (ts = [] ∧ ∃ p c, v = .slice p 0 c)
structure Rd (w : World) (B S : Nat) (ts : Gr.Ts) : Prop where
 lt : B < w.heap.size
 rest : ∃ v, w.cell? ⟨B, 0, none⟩ = some v ∧ Tk w B S v ts
 e : w.cell? ⟨B, 1, none⟩ = some (.int .i64 (S : Int))
 a : w.cell? ⟨B, 2, none⟩ = some (.int .i64 0)
 k : w.cell? ⟨B, 3, none⟩ = some (.int .i64 0)
 z0 : w.frozen? ⟨B, 0, none⟩ = false
 z2 : w.frozen? ⟨B, 2, none⟩ = false
 z3 : w.frozen? ⟨B, 3, none⟩ = false
 ok : ∀ t, t ∈ ts → Gr.TokOk S t
 len : ts.length ≤ 1024
 small : S ≤ 4096
theorem Tk.below {w w' : World} {B S : Nat} {v : Value} {ts : Gr.Ts} (h : Tk w B S v ts) (hb : Below w.heap.size w w') : Tk w' B S v ts := by
 rcases h with ⟨b, o, c, hv, hn, hl, hc⟩ | h
 ·
  exact .inl ⟨b, o, c, hv, hn, hl, fun j v hv => (hb.cell (World.block_lt_of_cell? w _ (hc j v hv))).trans (hc j v hv)⟩
 ·
  exact .inr h
theorem Rd.below {w w' : World} {B S : Nat} {ts : Gr.Ts} (h : Rd w B S ts) (hb : Below w.heap.size w w') : Rd w' B S ts := by
 obtain ⟨v, h0, h1⟩ := h.rest
 exact ⟨Nat.lt_of_lt_of_le h.lt hb.size, ⟨v, (hb.cell h.lt).trans h0, h1.below hb⟩, (hb.cell h.lt).trans h.e, (hb.cell h.lt).trans h.a, (hb.cell h.lt).trans h.k, (hb.frozen h.lt).trans h.z0, (hb.frozen h.lt).trans h.z2, (hb.frozen h.lt).trans h.z3, h.ok, h.len, h.small⟩
theorem Rd.alloc {w : World} {B S : Nat} {ts : Gr.Ts} (h : Rd w B S ts) (o : Obj) : Rd (w.alloc o) B S ts := h.below (bl_alloc (Below.refl _ _) o)
theorem Rd.form {w : World} {B S : Nat} {ts : Gr.Ts} (h : Rd w B S ts) : ∃ p c, w.cell? ⟨B, 0, none⟩ = some (.slice p ts.length c) := by
 obtain ⟨v, h0, h1⟩ := h.rest
 rcases h1 with ⟨b, o, c, rfl, -⟩ | ⟨rfl, p, c, rfl⟩
 ·
  exact ⟨_, _, h0⟩
 ·
  exact ⟨_, _, h0⟩
theorem Rd.cons {w : World} {B S : Nat} {t : Lx.Tok} {r : Gr.Ts} (h : Rd w B S (t :: r)) : ∃ b o c, w.cell? ⟨B, 0, none⟩ = some (.slice (some ⟨b, o, none⟩) (r.length + 1) c) ∧ b < B ∧ r.length + 1 ≤ c ∧
  w.cell? ⟨b, o, none⟩ = some (.int .i64 (t.kind : Int)) ∧ w.cell? ⟨b, o + 1, none⟩ = some (.string (Gr.tx t)) ∧ w.cell? ⟨b, o + 2, none⟩ = some (.int .i64 (t.n : Int)) ∧ w.cell? ⟨b, o + 3, none⟩ = some (.int .i64 ((S - t.left : Nat) : Int)) ∧ Cells w b (o + 4) (r.flatMap (Gr.cells S)) := by
 obtain ⟨v, h0, h1⟩ := h.rest
 rcases h1 with ⟨b, o, c, rfl, hn, hl, hc⟩ | ⟨h2, -⟩
 ·
  refine ⟨b, o, c, h0, hn, hl, ?_, ?_, ?_, ?_, ?_⟩
  ·
   exact hc 0 _ rfl
  ·
   exact hc 1 _ rfl
  ·
   exact hc 2 _ rfl
  ·
   exact hc 3 _ rfl
  ·
   intro j u hu
   have := hc (j + 4) u hu
   rw [show o + 4 + j = o + (j + 4) by omega]
   exact this
 ·
  cases h2
theorem Rd.next {w : World} {B S : Nat} {ts r : Gr.Ts} (h : Rd w B S ts) (hs : ∀ t, t ∈ r → t ∈ ts) (hl : r.length ≤ ts.length) {u : Value} (hu : Tk w B S u r) : Rd (w.setCell ⟨B, 0, none⟩ u) B S r := by
 obtain ⟨v, h0, -⟩ := h.rest
 have hd : ∀ (q : Addr), q ≠ ⟨B, 0, none⟩ → (w.setCell ⟨B, 0, none⟩ u).cell? q = w.cell? q := fun q hq => World.cell?_setCell_other _ _ _ _ (fun e => hq e.symm)
 have hl2 := h.len
 refine ⟨by simpa [World.setCell] using h.lt, ⟨_, World.cell?_setCell_same _ _ _ h0, ?_⟩, ?_, ?_, ?_, ?_, ?_, ?_, fun t ht => h.ok t (hs t ht), by omega, h.small⟩
 ·
  rcases hu with ⟨b, o, c, hv, hn, hl, hc⟩ | hu
  ·
   exact .inl ⟨b, o, c, hv, hn, hl, fun j v hv => by rw [hd _ (by intro e; rw [Addr.mk.injEq] at e; omega)]; exact hc j v hv⟩
  ·
   exact .inr hu
 ·
  rw [hd _ (by intro e; rw [Addr.mk.injEq] at e; omega)]; exact h.e
 ·
  rw [hd _ (by intro e; rw [Addr.mk.injEq] at e; omega)]; exact h.a
 ·
  rw [hd _ (by intro e; rw [Addr.mk.injEq] at e; omega)]; exact h.k
 ·
  have := h.z0; simpa [go_sem] using this
 ·
  have := h.z2; simpa [go_sem] using this
 ·
  have := h.z3; simpa [go_sem] using this
theorem Rd.grown {w w' : World} {B S : Nat} {ts : Gr.Ts} {row : Option Nat} (h : Rd w B S ts) (hg : w.grownBy w' row) (hr : ∀ k, row = some k → B < k) : Rd w' B S ts := by
 have hb : ∀ k, k ≤ B → w'.heap[k]? = w.heap[k]? := fun k hk => hg.block k (Nat.lt_of_le_of_lt hk h.lt) (fun e => by have := hr k e.symm; omega)
 have hcell : ∀ {q : Addr}, q.block ≤ B → w'.cell? q = w.cell? q := fun {q} hq => World.cell?_of_block (w := w) (hb q.block hq)
 have hfr : ∀ {q : Addr}, q.block ≤ B → w'.frozen? q = w.frozen? q := fun {q} hq => World.frozen?_of_block (w := w) (hb q.block hq)
 obtain ⟨v, h0, h1⟩ := h.rest
 refine ⟨Nat.lt_of_lt_of_le h.lt hg.size, ⟨v, (hcell (Nat.le_refl _)).trans h0, ?_⟩, (hcell (Nat.le_refl _)).trans h.e, (hcell (Nat.le_refl _)).trans h.a, (hcell (Nat.le_refl _)).trans h.k, (hfr (Nat.le_refl _)).trans h.z0, (hfr (Nat.le_refl _)).trans h.z2, (hfr (Nat.le_refl _)).trans h.z3, h.ok, h.len, h.small⟩
 rcases h1 with ⟨b, o, c, hv, hn, hl, hc⟩ | h1
 ·
  exact .inl ⟨b, o, c, hv, hn, hl, fun j v hv => (hcell (Nat.le_of_lt hn)).trans (hc j v hv)⟩
 ·
  exact .inr h1
theorem own_bes {B base : Nat} {w w' : World} {e : TypeId} {size n : Nat} {v : Value} {xs : List Value} (h : w.ownsRow base e size v n xs) (hb : Bes B w w') (hB : B < base) : w'.ownsRow base e size v n xs := by
 refine ⟨h.1, h.2.imp id ?_⟩
 rintro ⟨g, cap, cur, hv, hg, hh, r⟩
 have hlt : g < w.heap.size := by
  rcases Nat.lt_or_ge g w.heap.size with h1 | h1
  ·
   exact h1
  ·
   rw [Array.getElem?_eq_none h1] at hh; cases hh
 exact ⟨g, cap, cur, hv, hg, (hb.block g hlt (by omega)).trans hh, r⟩
theorem own_row {w : World} {base : Nat} {e : TypeId} {size : Nat} {v : Value} {n : Nat} {xs : List Value} (h : w.ownsRow base e size v n xs) : ∀ j, v.ownBlock = some j → base ≤ j := fun j ej => (h.lt j ej).1
theorem own_shape {w : World} {base : Nat} {e : TypeId} {size : Nat} {v : Value} {n : Nat} {xs : List Value} (h : w.ownsRow base e size v n xs) : ∃ a c, v = .slice a n c := by
 rcases h.2 with ⟨hv, hn⟩ | ⟨g, cap, cur, hv, -⟩
 ·
  subst hn; exact ⟨_, _, hv⟩
 ·
  exact ⟨_, _, hv⟩
theorem own_new {w : World} {base : Nat} {e : TypeId} {size : Nat} {v : Value} {n : Nat} {xs : List Value} (h : w.ownsRow base e size v n xs) {k : Nat} (hk : w.heap.size ≤ k) : some k ≠ v.ownBlock := fun e => by
 have := (h.lt k e.symm).2
 omega
theorem Tx.own {w : World} {base n : Nat} {v : Value} {xs : List ByteArray} (h : w.ownsRow base 9 1 v n (xs.map Value.string)) : Tx w (Ge base) v xs := by
 obtain ⟨hl, h⟩ := h
 rw [List.length_map] at hl
 rcases h with ⟨hv, hn⟩ | ⟨g, cap, cur, hv, hg, hh, hc, -, hz, ht⟩
 ·
  exact .inr ⟨List.eq_nil_of_length_eq_zero (by omega), _, _, by rw [hv]⟩
 ·
  refine .inl ⟨g, 0, cap, ?_, ?_, by omega, fun j x hx => ?_⟩
  ·
   rw [hv, show xs.length = n by omega]
  ·
   exact hg
  ·
   have h1 : cur.toList[j]? = some (.string x) := by
    have h2 : (cur.toList.take (n * 1))[j]? = some (.string x) := by rw [ht]; simp [hx]
    rw [List.getElem?_take] at h2
    split at h2
    ·
     exact h2
    ·
     cases h2
   have h3 : cur[j]? = some (.string x) := by rw [← Array.getElem?_toList]; exact h1
   show w.cell? ⟨g, 0 + j, none⟩ = _
   rw [Nat.zero_add, World.cell?]
   simp [hh, h3]
theorem Rd.save {w w' : World} {B S b : Nat} {ts : Gr.Ts} (h : Rd w B S ts) (hs : Save b w w') (hb : B < b) : Rd w' B S ts := by
 have hcell : ∀ {q : Addr}, q.block ≤ B → w'.cell? q = w.cell? q := fun {q} hq => hs.cell (by omega)
 have hfr : ∀ {q : Addr}, q.block ≤ B → w'.frozen? q = w.frozen? q := fun {q} hq => World.frozen?_of_block (w := w) (hs.block q.block (by omega))
 obtain ⟨v, h0, h1⟩ := h.rest
 refine ⟨by rw [hs.size]; exact h.lt, ⟨v, (hcell (Nat.le_refl _)).trans h0, ?_⟩, (hcell (Nat.le_refl _)).trans h.e, (hcell (Nat.le_refl _)).trans h.a, (hcell (Nat.le_refl _)).trans h.k, (hfr (Nat.le_refl _)).trans h.z0, (hfr (Nat.le_refl _)).trans h.z2, (hfr (Nat.le_refl _)).trans h.z3, h.ok, h.len, h.small⟩
 rcases h1 with ⟨b, o, c, hv, hn, hl, hc⟩ | h1
 ·
  exact .inl ⟨b, o, c, hv, hn, hl, fun j v hv => (hcell (Nat.le_of_lt hn)).trans (hc j v hv)⟩
 ·
  exact .inr h1
theorem Bes.save {B b : Nat} {a w w' : World} (h : Bes B a w) (hs : Save b w w') (hb : a.heap.size ≤ b) : Bes B a w' :=
 ⟨hs.os.trans h.os, hs.tape.trans h.tape, hs.output.trans h.output, by rw [hs.size]; exact h.size, fun k hk hB => (hs.block k (by omega)).trans (h.block k hk hB)⟩
theorem Keeps.save {m b : Nat} {w w' : World} (hs : Save b w w') (hb : b < m) : Keeps (Ge m) w w' := Keeps.of_save hs (fun h => by have : m ≤ b := h; omega)
theorem Bx.save {w w' : World} {M b : Nat} {vs : List Value} (h : Bx w b vs) (hs : Save M w w') (hb : b ≠ M) : Bx w' b vs :=
 ⟨fun j v hv => (hs.cell hb).trans (h.c j v hv), fun j hj => (World.frozen?_of_block (w := w) (hs.block b hb)).trans (h.z j hj)⟩
theorem Save.alloc2 {b : Nat} {w w' : World} (h : Save b w w') (o : Obj) : Save b (w.alloc o) (w'.alloc o) :=
 ⟨h.os, h.tape, h.output, by simp [h.size], fun k hk => by
  show (w'.heap.push o)[k]? = (w.heap.push o)[k]?
  rw [Array.getElem?_push, Array.getElem?_push, h.size, h.block k hk]⟩
theorem AtL.mk2 {w : World} {m n s : Nat} {va vb : List Value} {a b : Nd} (ha : At w (Ge m) n s va a) (hb : At w (Ge m) n s vb b) (hm : m ≤ w.heap.size) (t : TypeId) (hs : va.length = Nd.size s) (hs2 : vb.length = Nd.size s) : AtL (w.alloc (.cells (va ++ vb).toArray t)) (Ge m) n s (.slice (some ⟨w.heap.size, 0, none⟩) 2 2) [a, b] := by
 refine .inl ⟨w.heap.size, 0, 2, rfl, hm, Nat.le_refl _, by unfold maxLen; simp, fun i x hx => ?_⟩
 match i, hx with
 | 0, hx =>
  cases hx
  refine ⟨va, hs, fun j v hv => ?_, At.move (Keeps.of_below (bl_alloc (Below.refl _ _) _)) (fun _ h => h) _ _ _ _ ha⟩
  rw [World.cell?_alloc_at _ _ _ _ rfl]
  have hj := (List.getElem?_eq_some_iff.1 hv).1
  simp [List.getElem?_append_left hj, hv]
 | 1, hx =>
  cases hx
  refine ⟨vb, hs2, fun j v hv => ?_, At.move (Keeps.of_below (bl_alloc (Below.refl _ _) _)) (fun _ h => h) _ _ _ _ hb⟩
  rw [World.cell?_alloc_at _ _ _ _ rfl]
  simp [← hs, List.getElem?_append_right, hv]
end Go.Proofs.YtjebepnphoeiaaaGreatDoor
