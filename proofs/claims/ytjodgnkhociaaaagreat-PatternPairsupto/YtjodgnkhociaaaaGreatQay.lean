/- typed, of (x, 1), in a store that knows nothing. -/
import Derived.Test.YtjodgnkhociaaaaGreatQax
namespace Go.Proofs.YtjodgnkhociaaaaGreat
open Go.RowKit
set_option linter.unusedVariables false
set_option linter.unusedSimpArgs false

theorem res3 {fn : Func} {p a b : Tmp} {ty : TypeId} (h : fn.results = #[.cell p ty, .tmp a, .tmp b]) (tmps : Array Value) (P : Program) (w : World) :
    (results fn tmps).run P w = ((asAddr (tmps.getD p undef)).run P w).andThen fun ad w₁ => ((loadVar ty ad).run P w₁).andThen fun v w₂ => .ok (.tuple #[v, tmps.getD a undef, tmps.getD b undef]) w₂ := by
  simp only [results, h]
  simp [Sem.run_bind, Result.andThen]
/-- The type of (x, 1): a pair of the meta 0 and int. -/
abbrev tPair : Tp := .mk 5 0 [.mk 7 0 [], .mk 1 0 []]
abbrev tMeta : Tp := .mk 7 0 []
theorem tPair_at {w : World} {R : Nat} (h : Cells w R 0 [.int .i64 7, .int .i64 0, .slice none 0 0, .int .i64 1, .int .i64 0, .slice none 0 0]) : TAt w Any 2 [.int .i64 tPair.k, .int .i64 tPair.n, .slice (some ⟨R, 0, none⟩) tPair.ks.length 2] tPair := by
  refine ⟨_, rfl, ⟨by decide, by decide⟩, ⟨by decide, by decide⟩, .inl ⟨R, 0, 2, rfl, trivial, by decide, by decide, fun i x hx => ?_⟩⟩
  match i, hx with
  | 0, hx =>
    injection hx with hx
    subst hx
    exact ⟨[.int .i64 7, .int .i64 0, .slice none 0 0], fun j u hu => h _ _ (by match j, hu with | 0, hu => exact hu | 1, hu => exact hu | 2, hu => exact hu), _, rfl, ⟨by decide, by decide⟩, ⟨by decide, by decide⟩, .inr ⟨rfl, _, _, rfl⟩⟩
  | 1, hx =>
    injection hx with hx
    subst hx
    exact ⟨[.int .i64 1, .int .i64 0, .slice none 0 0], fun j u hu => by have := h (3 + j) u (by match j, hu with | 0, hu => exact hu | 1, hu => exact hu | 2, hu => exact hu); simpa using this, _, rfl, ⟨by decide, by decide⟩, ⟨by decide, by decide⟩, .inr ⟨rfl, _, _, rfl⟩⟩
theorem tMeta_at (w : World) : TAt w Any 1 [.int .i64 tMeta.k, .int .i64 tMeta.n, .slice none tMeta.ks.length 0] tMeta := ⟨_, rfl, ⟨by decide, by decide⟩, ⟨by decide, by decide⟩, .inr ⟨rfl, _, _, rfl⟩⟩
set_option maxHeartbeats 4000000 in
set_option maxRecDepth 100000 in
theorem typed_one (w : World) (P K S M base : Nat) (sv : Value) (C : Nat) (hS : StoG w S M base sv 0) (hl : Pair5 w P K 3 (⟨#[]⟩ : ByteArray) 1) (nP : ¬ Es S sv P) (nK : ¬ Es S sv K) : Calls Tryz.prog 21 #[.pointer (some ⟨P, 0, none⟩), .map (some C), .pointer (some ⟨S, 0, none⟩)] w fun e w' => (∃ a c N' g cb s' k', e = .returned (.tuple #[.agg #[.int .i64 5, .int .i64 0, .slice a 2 c], .slice (some ⟨g, 0, none⟩) 1 cb, .int .i64 0]) ∧ TAt w' (fun b => w.heap.size ≤ b) N' [.int .i64 5, .int .i64 0, .slice a 2 c] tPair ∧ Cells w' g 0 [.string bx, .int .i64 7, .int .i64 0, .slice s' 0 k']) ∧ (∃ v', StoG w' S M base v' 1) ∧ Xf (Es S sv) w w' := by
  have hSl := hS.st.lt
  have hPl := hl.pl
  have hKl := hl.a.2
  have HSV : Hid (∀ k, sv.ownBlock = some k → k < w.heap.size) := fun k e => (hS.own.lt k e).2
  have x0 : Below w.heap.size w ((w.alloc (.cells #[.int .i64 0, .int .i64 0, .slice none 0 0] TY)).alloc (.cells #[.map (some C), .pointer (some ⟨S, 0, none⟩), .slice none 0 0, .bool false] TYP)) := bl_alloc (bl_alloc (Below.refl _ _) _) _
  have X0 : Hid (Below w.heap.size w ((w.alloc (.cells #[.int .i64 0, .int .i64 0, .slice none 0 0] TY)).alloc (.cells #[.map (some C), .pointer (some ⟨S, 0, none⟩), .slice none 0 0, .bool false] TYP))) := x0
  have h1s : (w.alloc (.cells #[.int .i64 0, .int .i64 0, .slice none 0 0] TY)).heap.size = w.heap.size + 1 := size_alloc _ _
  have hT0 : Ty0 ((w.alloc (.cells #[.int .i64 0, .int .i64 0, .slice none 0 0] TY)).alloc (.cells #[.map (some C), .pointer (some ⟨S, 0, none⟩), .slice none 0 0, .bool false] TYP)) (w.heap.size + 1) S (.map (some C)) := ⟨by have := heap_alloc_at (w.alloc (.cells #[.int .i64 0, .int .i64 0, .slice none 0 0] TY)) (.cells #[.map (some C), .pointer (some ⟨S, 0, none⟩), .slice none 0 0, .bool false] TYP); rw [size_alloc] at this; exact this⟩
  have y0 : Arr ((w.alloc (.cells #[.int .i64 0, .int .i64 0, .slice none 0 0] TY)).alloc (.cells #[.map (some C), .pointer (some ⟨S, 0, none⟩), .slice none 0 0, .bool false] TYP)) w.heap.size TY [.int .i64 0, .int .i64 0, .slice none 0 0] := Arr.stays ⟨heap_alloc_at _ _⟩ (bl_alloc (Below.refl _ _) _)
  have Y0 := hid y0
  have nT : ¬ Es S sv (w.heap.size + 1) := fun e => e.elim (fun e => by omega) (fun e => by have := HSV.out _ e; omega)
  have n6 : ¬ (Es S sv w.heap.size ∨ w.heap.size = w.heap.size + 1) := fun e => e.elim (fun e => e.elim (fun e => by omega) (fun e => by have := HSV.out _ e; omega)) (fun e => by omega)
  have HQ : Hid (Calls Tryz.prog 31 #[.pointer (some ⟨w.heap.size + 1, 0, none⟩), .pointer (some ⟨P, 0, none⟩)] ((w.alloc (.cells #[.int .i64 0, .int .i64 0, .slice none 0 0] TY)).alloc (.cells #[.map (some C), .pointer (some ⟨S, 0, none⟩), .slice none 0 0, .bool false] TYP)) fun e w' => ∃ R, e = .returned (.agg #[.int .i64 5, .int .i64 0, .slice (some ⟨R, 0, none⟩) 2 2]) ∧ Cells w' R 0 [.int .i64 7, .int .i64 0, .slice none 0 0, .int .i64 1, .int .i64 0, .slice none 0 0] ∧ ((w.alloc (.cells #[.int .i64 0, .int .i64 0, .slice none 0 0] TY)).alloc (.cells #[.map (some C), .pointer (some ⟨S, 0, none⟩), .slice none 0 0, .bool false] TYP)).heap.size ≤ R ∧ ∃ v' g c, StoG w' S M base v' 1 ∧ Ty1 w' (w.heap.size + 1) S g (.map (some C)) c ∧ ((w.alloc (.cells #[.int .i64 0, .int .i64 0, .slice none 0 0] TY)).alloc (.cells #[.map (some C), .pointer (some ⟨S, 0, none⟩), .slice none 0 0, .bool false] TYP)).heap.size ≤ g ∧ Xf (fun k => Es S sv k ∨ k = w.heap.size + 1) ((w.alloc (.cells #[.int .i64 0, .int .i64 0, .slice none 0 0] TY)).alloc (.cells #[.map (some C), .pointer (some ⟨S, 0, none⟩), .slice none 0 0, .bool false] TYP)) w') := typeOf_pair _ _ S M base sv (.map (some C)) P K (hS.stays x0) hT0 (hl.stays x0) nT nP nK (by omega) (by omega)
  have hs0 : w.heap.size + 1 < ((w.alloc (.cells #[.int .i64 0, .int .i64 0, .slice none 0 0] TY)).alloc (.cells #[.map (some C), .pointer (some ⟨S, 0, none⟩), .slice none 0 0, .bool false] TYP)).heap.size := Arr.lt hT0
  have HS0 := hid hs0
  have HN6 := hid n6
  clear hS hl nP nK hT0 y0 x0 hs0 nT n6
  go_enter Tryz.func21, Tryz.ntmps21
  go_wp2_with (first
    | (
      go_at_call 31
      refine HQ.out.mono ?_
      rintro e w1 ⟨R, rfl, hR, hRs, v1, g, cb, hS1, hT1, hg, hx⟩
      have HR1 : Hid (Calls Tryz.prog 30 #[.pointer (some ⟨w.heap.size + 1, 0, none⟩), .agg #[.int .i64 5, .int .i64 0, .slice (some ⟨R, 0, none⟩) 2 2]] w1 fun e w' => (∃ a c N', e = .returned (.agg #[.int .i64 5, .int .i64 0, .slice a 2 c]) ∧ TAt w' (fun b => w1.heap.size ≤ b) N' [.int .i64 5, .int .i64 0, .slice a 2 c] tPair) ∧ Below w1.heap.size w1 w') := tresolved_any w1 _ S M base v1 1 hS1 (hT1.t.cell 1) 2 tPair _ _ (tPair_at hR) (by decide) (show opB 1 tPair = true from by decide)
      have hT1' := hid hT1
      have hS1' := hid hS1
      have hX1 := hid (Xf.trans (Xf.of_below (E := fun k => Es S sv k ∨ k = w.heap.size + 1) X0.out) hx)
      have A61 : Hid (Arr w1 w.heap.size TY [.int .i64 0, .int .i64 0, .slice none 0 0]) := hx.arr Y0.out HN6.out
      have hGs : Hid (w.heap.size + 1 < g) := Nat.lt_of_lt_of_le HS0.out hg
      clear hR hRs hS1 hT1 hg hx)
    | (
      go_at_call 30
      refine HR1.out.mono ?_
      rintro e w2 ⟨⟨a2, c2, N2, rfl, h2⟩, b2⟩
      have HT2 := hid h2
      have T2 := hT1'.out.stays b2
      have S2 := hS1'.out.stays b2
      have A62 := A61.out.stays b2
      have Hg1 : Hid (g < w1.heap.size) := World.block_lt_of_cell? _ _ (hT1'.out.b 0 _ rfl)
      have gl : g < w2.heap.size := World.block_lt_of_cell? _ _ (T2.b 0 _ rfl)
      have T2a := T2.stays (bl_alloc (Below.refl _ _) (.cells #[.int .i64 5, .int .i64 0, .slice a2 2 c2] TY))
      have B2 := hid b2
      have c2t := T2a.t.cell
      have c2g : (w2.alloc (.cells #[.int .i64 5, .int .i64 0, .slice a2 2 c2] TY)).cell? ⟨g, 0, none⟩ = _ := T2a.b 0 _ rfl
      have c2g1 : (w2.alloc (.cells #[.int .i64 5, .int .i64 0, .slice a2 2 c2] TY)).cell? ⟨g, 1, none⟩ = _ := T2a.b 1 _ rfl
      have c2g2 : (w2.alloc (.cells #[.int .i64 5, .int .i64 0, .slice a2 2 c2] TY)).cell? ⟨g, 2, none⟩ = _ := T2a.b 2 _ rfl
      have c2g3 : (w2.alloc (.cells #[.int .i64 5, .int .i64 0, .slice a2 2 c2] TY)).cell? ⟨g, 3, none⟩ = _ := T2a.b 3 _ rfl
      have TT2 := hid T2
      have SS2 := hid S2
      have AA62 := hid A62
      clear h2 T2 S2 A62 b2 T2a))
  refine wp_loop_rounds 2 ?_
  rw [rounds_succ]
  go_wp2
  have SW : ∀ {x}, Below ((w2.alloc (.cells #[.int .i64 5, .int .i64 0, .slice a2 2 c2] TY)).alloc (.cells #[.string bx, .int .i64 7, .int .i64 0, .slice none 0 0] BND)).heap.size ((w2.alloc (.cells #[.int .i64 5, .int .i64 0, .slice a2 2 c2] TY)).alloc (.cells #[.string bx, .int .i64 7, .int .i64 0, .slice none 0 0] BND)) x → Below w2.heap.size w2 x := fun h => bl_tr (bl_alloc (bl_alloc (Below.refl _ _) _) _) h
  have SWD : Below w2.heap.size w2 ((w2.alloc (.cells #[.int .i64 5, .int .i64 0, .slice a2 2 c2] TY)).alloc (.cells #[.string bx, .int .i64 7, .int .i64 0, .slice none 0 0] BND)).drew := SW (Below.refl _ _).drew
  have HSW := hid SWD
  have z10 : Arr (w2.alloc (.cells #[.int .i64 5, .int .i64 0, .slice a2 2 c2] TY)) w2.heap.size TY [.int .i64 5, .int .i64 0, .slice a2 2 c2] := ⟨heap_alloc_at _ _⟩
  have z12 : Arr ((w2.alloc (.cells #[.int .i64 5, .int .i64 0, .slice a2 2 c2] TY)).alloc (.cells #[.string bx, .int .i64 7, .int .i64 0, .slice none 0 0] BND)) (w2.heap.size + 1) BND [.string bx, .int .i64 7, .int .i64 0, .slice none 0 0] := ⟨by have := heap_alloc_at (w2.alloc (.cells #[.int .i64 5, .int .i64 0, .slice a2 2 c2] TY)) (.cells #[.string bx, .int .i64 7, .int .i64 0, .slice none 0 0] BND); rw [size_alloc] at this; exact this⟩
  have Z10 : Hid (Arr ((w2.alloc (.cells #[.int .i64 5, .int .i64 0, .slice a2 2 c2] TY)).alloc (.cells #[.string bx, .int .i64 7, .int .i64 0, .slice none 0 0] BND)).drew w2.heap.size TY [.int .i64 5, .int .i64 0, .slice a2 2 c2]) := z10.stays (bl_alloc (Below.refl _ _) _).drew
  have Z12 : Arr ((w2.alloc (.cells #[.int .i64 5, .int .i64 0, .slice a2 2 c2] TY)).alloc (.cells #[.string bx, .int .i64 7, .int .i64 0, .slice none 0 0] BND)).drew (w2.heap.size + 1) BND [.string bx, .int .i64 7, .int .i64 0, .slice none 0 0] := z12.stays (Below.refl _ _).drew
  have hsd : w2.heap.size + 1 < ((w2.alloc (.cells #[.int .i64 5, .int .i64 0, .slice a2 2 c2] TY)).alloc (.cells #[.string bx, .int .i64 7, .int .i64 0, .slice none 0 0] BND)).drew.heap.size := Z12.lt
  have TD : Ty1 ((w2.alloc (.cells #[.int .i64 5, .int .i64 0, .slice a2 2 c2] TY)).alloc (.cells #[.string bx, .int .i64 7, .int .i64 0, .slice none 0 0] BND)).drew (w.heap.size + 1) S g (.map (some C)) cb := TT2.out.stays SWD
  have TTD := hid TD
  have SSD := hid (SS2.out.stays SWD)
  have AAD := hid (AA62.out.stays SWD)
  have Tl : w.heap.size + 1 < w2.heap.size := TT2.out.t.lt
  have Tg : w.heap.size + 1 ≠ g := fun e => TT2.out.ne e.symm
  have HTl := hid Tl
  have HTg := hid Tg
  have Hgl := hid gl
  have HR2 : Hid (∀ wz, Below ((w2.alloc (.cells #[.int .i64 5, .int .i64 0, .slice a2 2 c2] TY)).alloc (.cells #[.string bx, .int .i64 7, .int .i64 0, .slice none 0 0] BND)).drew.heap.size ((w2.alloc (.cells #[.int .i64 5, .int .i64 0, .slice a2 2 c2] TY)).alloc (.cells #[.string bx, .int .i64 7, .int .i64 0, .slice none 0 0] BND)).drew wz → Calls Tryz.prog 30 #[.pointer (some ⟨w.heap.size + 1, 0, none⟩), .agg #[.int .i64 7, .int .i64 0, .slice none 0 0]] wz fun e w' => (∃ a c N', e = .returned (.agg #[.int .i64 7, .int .i64 0, .slice a 0 c]) ∧ TAt w' (fun b => wz.heap.size ≤ b) N' [.int .i64 7, .int .i64 0, .slice a 0 c] tMeta) ∧ Below wz.heap.size wz w') := hid fun wz hz => tresolved_any wz _ S M base v1 1 (SSD.out.stays hz) ((TTD.out.stays hz).t.cell 1) 1 tMeta none 0 (tMeta_at wz) (by decide) (show opB 1 tMeta = true from by decide)
  have hk : Hid (∀ wz : World, (∀ k, k ≠ g → k < ((w2.alloc (.cells #[.int .i64 5, .int .i64 0, .slice a2 2 c2] TY)).alloc (.cells #[.string bx, .int .i64 7, .int .i64 0, .slice none 0 0] BND)).drew.heap.size → wz.heap[k]? = ((w2.alloc (.cells #[.int .i64 5, .int .i64 0, .slice a2 2 c2] TY)).alloc (.cells #[.string bx, .int .i64 7, .int .i64 0, .slice none 0 0] BND)).drew.heap[k]?) → (wz.cell? ⟨w.heap.size + 1, 2, none⟩ = some (.slice (some ⟨g, 0, none⟩) 1 cb) ∧ wz.cell? ⟨w2.heap.size + 1, 1, none⟩ = some (.int .i64 7) ∧ wz.cell? ⟨w2.heap.size + 1, 2, none⟩ = some (.int .i64 0) ∧ wz.cell? ⟨w2.heap.size + 1, 3, none⟩ = some (.slice none 0 0))) := hid fun wz hz => by
    have eT := hz (w.heap.size + 1) Tg (by omega)
    have e12 := hz (w2.heap.size + 1) (by omega) hsd
    exact ⟨(World.cell?_of_block (w := ((w2.alloc (.cells #[.int .i64 5, .int .i64 0, .slice a2 2 c2] TY)).alloc (.cells #[.string bx, .int .i64 7, .int .i64 0, .slice none 0 0] BND)).drew) eT).trans (TTD.out.t.cell 2), (World.cell?_of_block (w := ((w2.alloc (.cells #[.int .i64 5, .int .i64 0, .slice a2 2 c2] TY)).alloc (.cells #[.string bx, .int .i64 7, .int .i64 0, .slice none 0 0] BND)).drew) e12).trans (Z12.cell 1), (World.cell?_of_block (w := ((w2.alloc (.cells #[.int .i64 5, .int .i64 0, .slice a2 2 c2] TY)).alloc (.cells #[.string bx, .int .i64 7, .int .i64 0, .slice none 0 0] BND)).drew) e12).trans (Z12.cell 2), (World.cell?_of_block (w := ((w2.alloc (.cells #[.int .i64 5, .int .i64 0, .slice a2 2 c2] TY)).alloc (.cells #[.string bx, .int .i64 7, .int .i64 0, .slice none 0 0] BND)).drew) e12).trans (Z12.cell 3)⟩
  have s0 : ((w2.alloc (.cells #[.int .i64 5, .int .i64 0, .slice a2 2 c2] TY)).alloc (.cells #[.string bx, .int .i64 7, .int .i64 0, .slice none 0 0] BND)).drew.cell? ⟨w.heap.size + 1, 2, none⟩ = some (.slice (some ⟨g, 0, none⟩) 1 cb) ∧ ((w2.alloc (.cells #[.int .i64 5, .int .i64 0, .slice a2 2 c2] TY)).alloc (.cells #[.string bx, .int .i64 7, .int .i64 0, .slice none 0 0] BND)).drew.cell? ⟨w2.heap.size + 1, 1, none⟩ = some (.int .i64 7) ∧ ((w2.alloc (.cells #[.int .i64 5, .int .i64 0, .slice a2 2 c2] TY)).alloc (.cells #[.string bx, .int .i64 7, .int .i64 0, .slice none 0 0] BND)).drew.cell? ⟨w2.heap.size + 1, 2, none⟩ = some (.int .i64 0) ∧ ((w2.alloc (.cells #[.int .i64 5, .int .i64 0, .slice a2 2 c2] TY)).alloc (.cells #[.string bx, .int .i64 7, .int .i64 0, .slice none 0 0] BND)).drew.cell? ⟨w2.heap.size + 1, 3, none⟩ = some (.slice none 0 0) := hk.out _ (fun _ _ _ => rfl)
  have HSD := hid hsd
  clear z10 z12 Z12 SW SWD TD c2t c2g c2g1 c2g2 c2g3 gl Tl hsd
  refine wp_region_held_drew (S := fun wz => wz.cell? ⟨w.heap.size + 1, 2, none⟩ = some (.slice (some ⟨g, 0, none⟩) 1 cb) ∧ wz.cell? ⟨w2.heap.size + 1, 1, none⟩ = some (.int .i64 7) ∧ wz.cell? ⟨w2.heap.size + 1, 2, none⟩ = some (.int .i64 0) ∧ wz.cell? ⟨w2.heap.size + 1, 3, none⟩ = some (.slice none 0 0)) (by kernel_rfl) (s0) (fun hS => ?_)
  generalize ((w2.alloc (.cells #[.int .i64 5, .int .i64 0, .slice a2 2 c2] TY)).alloc (.cells #[.string bx, .int .i64 7, .int .i64 0, .slice none 0 0] BND)).drew = wd at hS HR2 hk s0 HSW Z10 TTD SSD AAD HSD ⊢
  refine wpAnyH_take (i := 0) (v := ?_) rfl (by kernel_rfl) (by kernel_rfl) (by kernel_rfl) (fun _ _ _ h => h) (Or.inl ⟨by rfl, ?_⟩) hS ?_
  rotate_left
  · intro wz hz; go_simp; try with_reducible rfl
  try simp only [Act.put, List.setIfInBounds_toArray, List.set_cons_zero, List.set_cons_succ, List.getElem_toArray, List.getElem_cons_succ, List.getElem_cons_zero]
  refine wpAnyH_take (i := 1) (v := ?_) rfl (by kernel_rfl) (by kernel_rfl) (by kernel_rfl) (fun _ _ _ h => h) (Or.inl ⟨by rfl, ?_⟩) hS ?_
  rotate_left
  · intro wz hz; obtain ⟨yy0, yy1, yy2, yy3⟩ := hz; go_simp; try with_reducible rfl
  try simp only [Act.put, List.setIfInBounds_toArray, List.set_cons_zero, List.set_cons_succ, List.getElem_toArray, List.getElem_cons_succ, List.getElem_cons_zero]
  refine wpAnyH_take (i := 2) (v := ?_) rfl (by kernel_rfl) (by kernel_rfl) (by kernel_rfl) (fun _ _ _ h => h) (Or.inl ⟨by rfl, ?_⟩) hS ?_
  rotate_left
  · intro wz hz; go_simp; try with_reducible rfl
  try simp only [Act.put, List.setIfInBounds_toArray, List.set_cons_zero, List.set_cons_succ, List.getElem_toArray, List.getElem_cons_succ, List.getElem_cons_zero]
  refine wpAnyH_take (i := 3) (v := ?_) rfl (by kernel_rfl) (by kernel_rfl) (by kernel_rfl) (fun _ _ _ h => h) (Or.inl ⟨by rfl, ?_⟩) hS ?_
  rotate_left
  · intro wz hz; go_simp; try with_reducible rfl
  try simp only [Act.put, List.setIfInBounds_toArray, List.set_cons_zero, List.set_cons_succ, List.getElem_toArray, List.getElem_cons_succ, List.getElem_cons_zero]
  refine wpAnyH_take (i := 4) (v := ?_) rfl (by kernel_rfl) (by kernel_rfl) (by kernel_rfl) (fun _ _ _ h => h) (Or.inl ⟨by rfl, ?_⟩) hS ?_
  rotate_left
  · intro wz hz; obtain ⟨yy0, yy1, yy2, yy3⟩ := hz; go_simp; try with_reducible rfl
  try simp only [Act.put, List.setIfInBounds_toArray, List.set_cons_zero, List.set_cons_succ, List.getElem_toArray, List.getElem_cons_succ, List.getElem_cons_zero]
  refine wpAnyH_ready (rs := [5]) (by kernel_rfl) (by simp) (AllReadyH.cons rfl (fun K hK => ?a1_5) AllReadyH.nil)
  case' a1_5 =>
    go_simp
    refine (HR2.out _ (Below.refl _ _)).mono ?_
    rintro e w4 ⟨⟨a4, c4, N4, rfl, -⟩, b4⟩
    have B4 := hid b4
    clear b4
    refine hK.out _ _ ((hk.out _ (fun k _ hl => B4.out.block k hl))) (fun hSn => ?_)
    clear hK K hS
    have hS := hSn
    clear hSn
    try simp only [Act.put, List.setIfInBounds_toArray, List.set_cons_zero, List.set_cons_succ, List.getElem_toArray, List.getElem_cons_succ, List.getElem_cons_zero]
    refine wpAnyH_take (i := 6) (v := ?_) rfl (by kernel_rfl) (by kernel_rfl) (by kernel_rfl) (fun _ _ _ h => h) (Or.inl ⟨by rfl, ?_⟩) hS ?_
    rotate_left
    · intro wz hz; go_simp; try with_reducible rfl
    try simp only [Act.put, List.setIfInBounds_toArray, List.set_cons_zero, List.set_cons_succ, List.getElem_toArray, List.getElem_cons_succ, List.getElem_cons_zero]
    refine wpAnyH_take (i := 7) (v := ?_) rfl (by kernel_rfl) (by kernel_rfl) (by kernel_rfl) (fun _ _ _ h => h) (Or.inl ⟨by rfl, ?_⟩) hS ?_
    rotate_left
    · intro wz hz; go_simp; try with_reducible rfl
    try simp only [Act.put, List.setIfInBounds_toArray, List.set_cons_zero, List.set_cons_succ, List.getElem_toArray, List.getElem_cons_succ, List.getElem_cons_zero]
    refine wpAnyH_ready (rs := [8]) (by kernel_rfl) (by simp) (AllReadyH.cons rfl (fun K hK => ?a2_8) AllReadyH.nil)
    case' a2_8 =>
      have g1 := (TTD.out.stays B4.out).b 1 _ rfl
      have g2 := (TTD.out.stays B4.out).b 2 _ rfl
      have g3 := (TTD.out.stays B4.out).b 3 _ rfl
      have gf := (TTD.out.stays B4.out).bw
      go_simp
      refine hK.out _ _ ((hk.out _ (fun k h4 hl => ((Below.heap_setCell _ ⟨g, 3, none⟩ _ _ h4).trans ((Below.heap_setCell _ ⟨g, 2, none⟩ _ _ h4).trans (Below.heap_setCell _ ⟨g, 1, none⟩ _ _ h4))).trans (B4.out.block k hl)))) (fun hSn => ?_)
      clear hK K hS
      have hS := hSn
      clear hSn
      try simp only [Act.put, List.setIfInBounds_toArray, List.set_cons_zero, List.set_cons_succ, List.getElem_toArray, List.getElem_cons_succ, List.getElem_cons_zero]
      refine wpAnyH_done (by kernel_rfl) ?_ _
  have T4 := TTD.out.stays B4.out
  have A64 := AAD.out.stays B4.out
  have A104 := Z10.out.stays B4.out
  have S4 := SSD.out.stays B4.out
  have gneT : w.heap.size + 1 ≠ g := HTg.out
  have gne6 : w.heap.size ≠ g := by have := hGs.out; omega
  have gne10 : w2.heap.size ≠ g := by have := Hgl.out; omega
  have T5 : Arr (((w4.setCell ⟨g, 1, none⟩ (.int .i64 7)).setCell ⟨g, 2, none⟩ (.int .i64 0)).setCell ⟨g, 3, none⟩ (.slice a4 0 c4)) (w.heap.size + 1) TYP [.map (some C), .pointer (some ⟨S, 0, none⟩), .slice (some ⟨g, 0, none⟩) 1 cb, .bool false] := ((T4.t.off gneT _ _).off gneT _ _).off gneT _ _
  have A65 : Arr (((w4.setCell ⟨g, 1, none⟩ (.int .i64 7)).setCell ⟨g, 2, none⟩ (.int .i64 0)).setCell ⟨g, 3, none⟩ (.slice a4 0 c4)) w.heap.size TY [.int .i64 0, .int .i64 0, .slice none 0 0] := ((A64.off gne6 _ _).off gne6 _ _).off gne6 _ _
  have A105 : Arr (((w4.setCell ⟨g, 1, none⟩ (.int .i64 7)).setCell ⟨g, 2, none⟩ (.int .i64 0)).setCell ⟨g, 3, none⟩ (.slice a4 0 c4)) w2.heap.size TY [.int .i64 5, .int .i64 0, .slice a2 2 c2] := ((A104.off gne10 _ _).off gne10 _ _).off gne10 _ _
  obtain ⟨gcur, ga⟩ := T4.ar
  have no := S4.not ga (by decide) (by decide)
  have S5 : Hid (StoG (((w4.setCell ⟨g, 1, none⟩ (.int .i64 7)).setCell ⟨g, 2, none⟩ (.int .i64 0)).setCell ⟨g, 3, none⟩ (.slice a4 0 c4)) S M base v1 1) := ((S4.other no.1 no.2.1 no.2.2 _).other no.1 no.2.1 no.2.2 _).other no.1 no.2.1 no.2.2 _
  have gx0 : w4.cell? ⟨g, 0, none⟩ = some (.string bx) := T4.b 0 _ rfl
  have G5 : Hid (Cells (((w4.setCell ⟨g, 1, none⟩ (.int .i64 7)).setCell ⟨g, 2, none⟩ (.int .i64 0)).setCell ⟨g, 3, none⟩ (.slice a4 0 c4)) g 0 [.string bx, .int .i64 7, .int .i64 0, .slice a4 0 c4] ∧ g < (((w4.setCell ⟨g, 1, none⟩ (.int .i64 7)).setCell ⟨g, 2, none⟩ (.int .i64 0)).setCell ⟨g, 3, none⟩ (.slice a4 0 c4)).heap.size) := hid (by
    have ga3 := ((ga.set 1 (.int .i64 7)).set 2 (.int .i64 0)).set 3 (.slice a4 0 c4)
    have c0 := ga.cell 0
    have c1 := ga.cell 1
    have c2' := ga.cell 2
    have c3 := ga.cell 3
    have b1 := T4.b 1 _ rfl
    have b2 := T4.b 2 _ rfl
    have b3 := T4.b 3 _ rfl
    have hl : 3 < gcur.length := by
      have e : gcur[3]? = some _ := c3.symm.trans b3
      exact (List.getElem?_eq_some_iff.1 e).1
    refine ⟨fun j u hu => ?_, ga3.lt⟩
    rw [Nat.zero_add, ga3.cell]
    match j, hu with
    | 0, hu => rw [← hu]; simp [List.getElem?_set]; exact c0.symm.trans gx0
    | 1, hu => rw [← hu]; simp [List.getElem?_set]; omega
    | 2, hu => rw [← hu]; simp [List.getElem?_set]; omega
    | 3, hu => rw [← hu]; simp [List.getElem?_set]; omega)
  have X5 : Hid (Xf (fun k => Es S sv k ∨ k = w.heap.size + 1) w (((w4.setCell ⟨g, 1, none⟩ (.int .i64 7)).setCell ⟨g, 2, none⟩ (.int .i64 0)).setCell ⟨g, 3, none⟩ (.slice a4 0 c4))) := hid (by
    have hgw : w.heap.size ≤ g := by have := hGs.out; omega
    have hx1s := hX1.out.size
    exact ((((hX1.out.trans (Xf.of_below B2.out)).trans ((Xf.of_below HSW.out).trans (Xf.of_below B4.out))).set (.inr hgw) 1 _).set (.inr hgw) 2 _).set (.inr hgw) 3 _)
  have H5 : Hid (TAt (((w4.setCell ⟨g, 1, none⟩ (.int .i64 7)).setCell ⟨g, 2, none⟩ (.int .i64 0)).setCell ⟨g, 3, none⟩ (.slice a4 0 c4)) (fun b => w1.heap.size ≤ b) N2 [.int .i64 5, .int .i64 0, .slice a2 2 c2] tPair) := hid (by
    have hgl1 := Hg1.out
    have hK : ∀ (W : World) j u, Keeps (fun b => w1.heap.size ≤ b) W (W.setCell ⟨g, j, none⟩ u) := fun W j u => Keeps.set (K := fun b => w1.heap.size ≤ b) (p := ⟨g, j, none⟩) (show ¬ w1.heap.size ≤ g by omega) u
    exact HT2.out.move ((((((Keeps.of_below HSW.out).trans (Keeps.of_below B4.out)).trans (hK _ _ _)).trans (hK _ _ _)).trans (hK _ _ _))) (fun _ h => h))
  have c5t := T5.cell
  have TT5 := hid T5
  have AA65 := hid A65
  have AA105 := hid A105
  clear T4 A64 A104 S4 T5 A65 A105 ga no gx0 hS
  have hw5 : ∃ w5, w5 = (((w4.setCell ⟨g, 1, none⟩ (.int .i64 7)).setCell ⟨g, 2, none⟩ (.int .i64 0)).setCell ⟨g, 3, none⟩ (.slice a4 0 c4)) := ⟨_, rfl⟩
  go_wp2
  rw [rounds_succ]
  go_wp2
  obtain ⟨w5, hw5⟩ := hw5
  rw [← hw5] at AA65 TT5 AA105 S5 G5 X5 H5 ⊢
  clear hw5 c5t
  have D5 := Below.drew (Below.refl w5.heap.size w5)
  have T6 := TT5.out.stays D5
  have A66 := AA65.out.stays D5
  have A106 := AA105.out.stays D5
  have TT6 := hid T6
  have AA66 := hid A66
  have f6 := A66.frozen
  have c6 := A66.cell
  have S6 := hid (S5.out.stays D5)
  have X6 := hid (X5.out.trans (Xf.of_below D5))
  have H6 := hid (H5.out.move (Keeps.of_below D5) (fun _ h => h))
  have G6 : Hid (Cells w5.drew g 0 [.string bx, .int .i64 7, .int .i64 0, .slice a4 0 c4]) := hid (fun j u hu => (D5.cell G5.out.2).trans (G5.out.1 j u hu))
  have hk : Hid (∀ wz : World, (∀ k, k ≠ w.heap.size → k < w5.drew.heap.size → wz.heap[k]? = w5.drew.heap[k]?) → (wz.cell? ⟨w2.heap.size, 0, none⟩ = some (.int .i64 5) ∧ wz.cell? ⟨w2.heap.size, 1, none⟩ = some (.int .i64 0) ∧ wz.cell? ⟨w2.heap.size, 2, none⟩ = some (.slice a2 2 c2) ∧ wz.cell? ⟨w.heap.size + 1, 2, none⟩ = some (.slice (some ⟨g, 0, none⟩) 1 cb))) := hid fun wz hz => by
    have h1 := hX1.out.size
    have h2 := HS0.out
    have h3 := A106.lt
    have h4 := T6.lt
    have h5 := HTl.out
    have eT := hz (w.heap.size + 1) (by omega) h4
    have e10 := hz w2.heap.size (by omega) h3
    exact ⟨(World.cell?_of_block (w := w5.drew) e10).trans (A106.cell 0), (World.cell?_of_block (w := w5.drew) e10).trans (A106.cell 1), (World.cell?_of_block (w := w5.drew) e10).trans (A106.cell 2), (World.cell?_of_block (w := w5.drew) eT).trans (T6.cell 2)⟩
  have s0 : w5.drew.cell? ⟨w2.heap.size, 0, none⟩ = some (.int .i64 5) ∧ w5.drew.cell? ⟨w2.heap.size, 1, none⟩ = some (.int .i64 0) ∧ w5.drew.cell? ⟨w2.heap.size, 2, none⟩ = some (.slice a2 2 c2) ∧ w5.drew.cell? ⟨w.heap.size + 1, 2, none⟩ = some (.slice (some ⟨g, 0, none⟩) 1 cb) := hk.out _ (fun _ _ _ => rfl)
  have HGl1 := Hg1
  clear T6 A66 A106 D5 TT5 AA65 AA105 S5 X5 H5 G5
  refine wp_region_held_drew (S := fun wz => wz.cell? ⟨w2.heap.size, 0, none⟩ = some (.int .i64 5) ∧ wz.cell? ⟨w2.heap.size, 1, none⟩ = some (.int .i64 0) ∧ wz.cell? ⟨w2.heap.size, 2, none⟩ = some (.slice a2 2 c2) ∧ wz.cell? ⟨w.heap.size + 1, 2, none⟩ = some (.slice (some ⟨g, 0, none⟩) 1 cb)) (by kernel_rfl) (s0) (fun hS => ?_)
  generalize w5.drew = wd at hS TT6 AA66 f6 c6 S6 X6 H6 G6 hk s0 ⊢
  refine wpAnyH_take (i := 0) (v := ?_) rfl (by kernel_rfl) (by kernel_rfl) (by kernel_rfl) (fun _ _ _ h => h) (Or.inl ⟨by rfl, ?_⟩) hS ?_
  rotate_left
  · intro wz hz; obtain ⟨yy0, yy1, yy2, yy3⟩ := hz; go_simp; try with_reducible rfl
  try simp only [Act.put, List.setIfInBounds_toArray, List.set_cons_zero, List.set_cons_succ, List.getElem_toArray, List.getElem_cons_succ, List.getElem_cons_zero]
  refine wpAnyH_take (i := 1) (v := ?_) rfl (by kernel_rfl) (by kernel_rfl) (by kernel_rfl) (fun _ _ _ h => h) (Or.inl ⟨by rfl, ?_⟩) hS ?_
  rotate_left
  · intro wz hz; go_simp; try with_reducible rfl
  try simp only [Act.put, List.setIfInBounds_toArray, List.set_cons_zero, List.set_cons_succ, List.getElem_toArray, List.getElem_cons_succ, List.getElem_cons_zero]
  refine wpAnyH_take (i := 2) (v := ?_) rfl (by kernel_rfl) (by kernel_rfl) (by kernel_rfl) (fun _ _ _ h => h) (Or.inl ⟨by rfl, ?_⟩) hS ?_
  rotate_left
  · intro wz hz; obtain ⟨yy0, yy1, yy2, yy3⟩ := hz; go_simp; try with_reducible rfl
  try simp only [Act.put, List.setIfInBounds_toArray, List.set_cons_zero, List.set_cons_succ, List.getElem_toArray, List.getElem_cons_succ, List.getElem_cons_zero]
  refine wpAnyH_ready (rs := [3]) (by kernel_rfl) (by simp) (AllReadyH.cons rfl (fun K hK => ?a3_3) AllReadyH.nil)
  case' a3_3 =>
    go_simp
    refine hK.out _ _ ((hk.out _ (fun k h4 hl => (Below.heap_setCell _ ⟨w.heap.size, 2, none⟩ _ _ h4).trans ((Below.heap_setCell _ ⟨w.heap.size, 1, none⟩ _ _ h4).trans (Below.heap_setCell _ ⟨w.heap.size, 0, none⟩ _ _ h4))))) (fun hSn => ?_)
    clear hK K hS
    have hS := hSn
    clear hSn
    try simp only [Act.put, List.setIfInBounds_toArray, List.set_cons_zero, List.set_cons_succ, List.getElem_toArray, List.getElem_cons_succ, List.getElem_cons_zero]
    refine wpAnyH_take (i := 4) (v := ?_) rfl (by kernel_rfl) (by kernel_rfl) (by kernel_rfl) (fun _ _ _ h => h) (Or.inl ⟨by rfl, ?_⟩) hS ?_
    rotate_left
    · intro wz hz; go_simp; try with_reducible rfl
    try simp only [Act.put, List.setIfInBounds_toArray, List.set_cons_zero, List.set_cons_succ, List.getElem_toArray, List.getElem_cons_succ, List.getElem_cons_zero]
    refine wpAnyH_take (i := 5) (v := ?_) rfl (by kernel_rfl) (by kernel_rfl) (by kernel_rfl) (fun _ _ _ h => h) (Or.inl ⟨by rfl, ?_⟩) hS ?_
    rotate_left
    · intro wz hz; go_simp; try with_reducible rfl
    try simp only [Act.put, List.setIfInBounds_toArray, List.set_cons_zero, List.set_cons_succ, List.getElem_toArray, List.getElem_cons_succ, List.getElem_cons_zero]
    refine wpAnyH_done (by kernel_rfl) ?_ _
  all_goals (
    go_wp2
    refine bodyPost_ret (v := .tuple #[.agg #[.int .i64 5, .int .i64 0, .slice a2 2 c2], .slice (some ⟨g, 0, none⟩) 1 cb, .int .i64 0]) (by rw [res3 (fn := Tryz.f21) (p := 6) (a := 7) (b := 8) (ty := TY) (by kernel_rfl)]; simp [go_sem, c6, f6]) rfl ?_
    have hg1 := HGl1.out
    have hgs := hGs.out
    have hx1 := hX1.out.size
    have h61 := A61.out.lt
    have no6 := S6.out.not AA66.out (by decide) (by decide)
    have hK : ∀ (W : World) j u, Keeps (fun b => w1.heap.size ≤ b) W (W.setCell ⟨w.heap.size, j, none⟩ u) := fun W j u => Keeps.set (K := fun b => w1.heap.size ≤ b) (p := ⟨w.heap.size, j, none⟩) (show ¬ w1.heap.size ≤ w.heap.size by omega) u
    have kg : g ≠ w.heap.size := by omega
    refine ⟨⟨a2, c2, N2, g, cb, a4, c4, rfl, H6.out.move (((hK _ _ _).trans (hK _ _ _)).trans (hK _ _ _)) (fun b hb => by omega), fun j u hu => ?_⟩, ⟨v1, ((S6.out.other no6.1 no6.2.1 no6.2.2 _).other no6.1 no6.2.1 no6.2.2 _).other no6.1 no6.2.1 no6.2.2 _⟩, ?_⟩
    · exact (World.cell?_of_block (w := wd) ((Below.heap_setCell _ ⟨w.heap.size, 2, none⟩ _ _ kg).trans ((Below.heap_setCell _ ⟨w.heap.size, 1, none⟩ _ _ kg).trans (Below.heap_setCell _ ⟨w.heap.size, 0, none⟩ _ _ kg)))).trans (G6.out j u hu)
    · exact (((X6.out.set (.inr (Nat.le_refl _)) 0 _).set (.inr (Nat.le_refl _)) 1 _).set (.inr (Nat.le_refl _)) 2 _).mono (fun k hk e => e.resolve_right (by omega)))
end Go.Proofs.YtjodgnkhociaaaaGreat
