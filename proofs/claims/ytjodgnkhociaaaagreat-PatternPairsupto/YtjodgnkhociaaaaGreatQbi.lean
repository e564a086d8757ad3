/- PatternPairs where both fit. -/
import Derived.Test.YtjodgnkhociaaaaGreatQbg
import Derived.Test.YtjodgnkhociaaaaGreatQbd
namespace Go.Proofs.YtjodgnkhociaaaaGreat
open Go.RowKit
set_option linter.unusedVariables false
set_option linter.unusedSimpArgs false

theorem prKeep {i b o b' o' cb co nb no xc yc : Nat} {xa ya : Option Addr} {wa wb : World} {x : ByteArray} {y : Vl} (hb : Below wa.heap.size wa wb) (h : wa.cell? ⟨cb, co + i, none⟩ = some (.string x) ∧ wa.cell? ⟨nb, no + i, none⟩ = some (.string x) ∧ wa.cell? ⟨b, o + i * 4, none⟩ = some (.int .i64 y.k) ∧ wa.cell? ⟨b, o + i * 4 + 1, none⟩ = some (.int .i64 y.n) ∧ wa.cell? ⟨b, o + i * 4 + 2, none⟩ = some (.string y.s) ∧ wa.cell? ⟨b, o + i * 4 + 3, none⟩ = some (.slice xa y.ks.length xc) ∧ wa.cell? ⟨b', o' + i * 4, none⟩ = some (.int .i64 y.k) ∧ wa.cell? ⟨b', o' + i * 4 + 1, none⟩ = some (.int .i64 y.n) ∧ wa.cell? ⟨b', o' + i * 4 + 2, none⟩ = some (.string y.s) ∧ wa.cell? ⟨b', o' + i * 4 + 3, none⟩ = some (.slice ya y.ks.length yc)) : wb.cell? ⟨cb, co + i, none⟩ = some (.string x) ∧ wb.cell? ⟨nb, no + i, none⟩ = some (.string x) ∧ wb.cell? ⟨b, o + i * 4, none⟩ = some (.int .i64 y.k) ∧ wb.cell? ⟨b, o + i * 4 + 1, none⟩ = some (.int .i64 y.n) ∧ wb.cell? ⟨b, o + i * 4 + 2, none⟩ = some (.string y.s) ∧ wb.cell? ⟨b, o + i * 4 + 3, none⟩ = some (.slice xa y.ks.length xc) ∧ wb.cell? ⟨b', o' + i * 4, none⟩ = some (.int .i64 y.k) ∧ wb.cell? ⟨b', o' + i * 4 + 1, none⟩ = some (.int .i64 y.n) ∧ wb.cell? ⟨b', o' + i * 4 + 2, none⟩ = some (.string y.s) ∧ wb.cell? ⟨b', o' + i * 4 + 3, none⟩ = some (.slice ya y.ks.length yc) := by
  obtain ⟨q0, q1, q2, q3, q4, q5, q6, q7, q8, q9⟩ := h
  exact ⟨(hb.cell (World.block_lt_of_cell? _ _ q0)).trans q0, (hb.cell (World.block_lt_of_cell? _ _ q1)).trans q1, (hb.cell (World.block_lt_of_cell? _ _ q2)).trans q2, (hb.cell (World.block_lt_of_cell? _ _ q3)).trans q3, (hb.cell (World.block_lt_of_cell? _ _ q4)).trans q4, (hb.cell (World.block_lt_of_cell? _ _ q5)).trans q5, (hb.cell (World.block_lt_of_cell? _ _ q6)).trans q6, (hb.cell (World.block_lt_of_cell? _ _ q7)).trans q7, (hb.cell (World.block_lt_of_cell? _ _ q8)).trans q8, (hb.cell (World.block_lt_of_cell? _ _ q9)).trans q9⟩
theorem StL.below {w w' : World} {K : Nat → Prop} {v : Value} {l : List ByteArray} (h : StL w K v l) (hb : Below w.heap.size w w') : StL w' K v l := GRow.move h (Keeps.of_below hb) (fun _ h => h) fun _ _ q => q
theorem vl_below {w w' : World} {v : Value} {l : List Vl} (h : ∃ N, VAtL w Any N v l) (hb : Below w.heap.size w w') : ∃ N, VAtL w' Any N v l := h.elim fun N h => ⟨N, h.below hb⟩
theorem sr_st {w : World} {K : Nat → Prop} {v : Value} {l : List ByteArray} {m : Nat} (hm : l.length = m) (h : StL w K v l) : Sr w 1 v m (l.map strV) := by subst hm; exact h.sr
theorem sr_vl {w : World} {v : Value} {l : List Vl} {m : Nat} (hm : l.length = m) (h : ∃ N, VAtL w Any N v l) : ∃ n vals, vals.length = l.length * 4 ∧ Sr w 4 v m vals ∧ ∀ (i : Nat) x, l[i]? = some x → ∃ vs, VAt w (· < w.heap.size) n vs x ∧ Seg vals (i * 4) vs := by
  subst hm
  obtain ⟨N, h⟩ := h
  obtain ⟨vals, h1, h2, h3⟩ := h.sr
  exact ⟨N, vals, h1, h2, fun i x hx => by obtain ⟨vs, q1, q2⟩ := h3 i x hx; exact ⟨vs, q1.old, q2⟩⟩
theorem own_names {w : World} {base : Nat} {v : Value} {A C : List ByteArray} {m n : Nat} (hA : A.length = m) (h : w.ownsRow base STT 1 v (m + n) (A.map strV ++ C.map strV)) : w.ownsRow base STT 1 v (m + n) ((A ++ C).map strV) := by rw [List.map_append]; exact h
theorem own_st' {w : World} {base : Nat} {v : Value} {l : List ByteArray} {n : Nat} (hn : l.length = n) (h : w.ownsRow base STT 1 v n (l.map strV)) : StL w Any v l := by subst hn; exact GRow.move (own_st h) (Keeps.refl _ _) (fun _ _ => trivial) fun _ _ q => q
theorem own_vals' {w : World} {base N F : Nat} {v : Value} {l : List Vl} {xs : List Value} {n : Nat} (hn : l.length = n) (h : w.ownsRow base VT 4 v n xs) (he : ∀ (i : Nat) y, l[i]? = some y → ∃ vs, VAt w (· < F) N vs y ∧ Seg xs (i * 4) vs) : VAtL w Any N v l := by subst hn; exact own_vals h he
theorem grow_len {α : Type} {w : World} {K : Nat → Prop} {k : Nat} {R : List Value → α → Prop} {a : Option Addr} {c n : Nat} {l : List α} (hn : l.length = n) (h : GRow w K k R (.slice a n c) l) : GRow w K k R (.slice a l.length c) l := by rw [hn]; exact h
set_option maxHeartbeats 8000000 in
set_option maxRecDepth 100000 in
theorem pairs_yes (w : World) {pk pn : Int} {ps : ByteArray} {pa pa2 : Option Addr} {pl pc pl2 pc2 : Nat} {qk qn : Int} {qs : ByteArray} {qa qa2 : Option Addr} {ql qc ql2 qc2 : Nat} {vk vn : Int} {vs : ByteArray} {va : Option Addr} {vl vc : Nat} {uk un : Int} {us : ByteArray} {ua : Option Addr} {ul uc : Nat} (l1 l2 : Nat) (A C : List ByteArray) (L M : List Vl) (hA : A.length = l1) (hC : C.length = l2) (hL : L.length = l1) (hM : M.length = l2) (hl1 : l1 ≤ 1048576) (hl2 : l2 ≤ 1048576)
    (HF1 : Hid (∀ wz, Below w.heap.size w wz → Calls Tryz.prog 5 #[.agg #[.int .i64 pk, .string ps, .slice pa pl pc, .int .i64 pn, .slice pa2 pl2 pc2], .agg #[.int .i64 vk, .int .i64 vn, .string vs, .slice va vl vc]] wz fun e w' => (∃ a c a' c', e = .returned (.tuple #[.slice a l1 c, .slice a' l1 c', .bool true]) ∧ StL w' Any (.slice a l1 c) A ∧ ∃ N, VAtL w' Any N (.slice a' l1 c') L) ∧ Below wz.heap.size wz w')) (HF2 : Hid (∀ wz, Below w.heap.size w wz → Calls Tryz.prog 5 #[.agg #[.int .i64 qk, .string qs, .slice qa ql qc, .int .i64 qn, .slice qa2 ql2 qc2], .agg #[.int .i64 uk, .int .i64 un, .string us, .slice ua ul uc]] wz fun e w' => (∃ a c a' c', e = .returned (.tuple #[.slice a l2 c, .slice a' l2 c', .bool true]) ∧ StL w' Any (.slice a l2 c) C ∧ ∃ N, VAtL w' Any N (.slice a' l2 c') M) ∧ Below wz.heap.size wz w')) (HF3 : Hid (∀ wz B1 B2, Below w.heap.size w wz → Cells wz B1 0 [.int .i64 pk, .string ps, .slice pa pl pc, .int .i64 pn, .slice pa2 pl2 pc2, .int .i64 qk, .string qs, .slice qa ql qc, .int .i64 qn, .slice qa2 ql2 qc2] → Cells wz B2 0 [.int .i64 vk, .int .i64 vn, .string vs, .slice va vl vc, .int .i64 uk, .int .i64 un, .string us, .slice ua ul uc] → Calls Tryz.prog 5 #[.agg #[.int .i64 7, .string ⟨#[]⟩, .slice none 0 0, .int .i64 0, .slice (some ⟨B1, 0, none⟩) 2 2], .agg #[.int .i64 4, .int .i64 0, .string ⟨#[]⟩, .slice (some ⟨B2, 0, none⟩) 2 2]] wz fun e w' => (∃ a c a' c', e = .returned (.tuple #[.slice a (l1 + l2) c, .slice a' (l1 + l2) c', .bool true]) ∧ StL w' Any (.slice a (l1 + l2) c) (A ++ C) ∧ ∃ N, VAtL w' Any N (.slice a' (l1 + l2) c') (L ++ M)) ∧ Below wz.heap.size wz w')) :
    Calls Tryz.prog 4 #[.agg #[.int .i64 pk, .string ps, .slice pa pl pc, .int .i64 pn, .slice pa2 pl2 pc2], .agg #[.int .i64 qk, .string qs, .slice qa ql qc, .int .i64 qn, .slice qa2 ql2 qc2], .agg #[.int .i64 vk, .int .i64 vn, .string vs, .slice va vl vc], .agg #[.int .i64 uk, .int .i64 un, .string us, .slice ua ul uc]] w fun e w' => e = .returned (.bool true) ∧ Below w.heap.size w w' := by
  obtain ⟨i0, hi0, hz0, hz1, hz2⟩ := info_parts0 info_str
  obtain ⟨j0, hj0, hy0, hy1, hy2⟩ := info_parts0 info_val
  have HLA := hid hA
  have HLC := hid hC
  have HLL := hid hL
  have HLM := hid hM
  clear hA hC hL hM
  have hbl : Below w.heap.size w ((((w.alloc (.cells #[.int .i64 pk, .string ps, .slice pa pl pc, .int .i64 pn, .slice pa2 pl2 pc2] PAT5)).alloc (.cells #[.int .i64 qk, .string qs, .slice qa ql qc, .int .i64 qn, .slice qa2 ql2 qc2] PAT5)).alloc (.cells #[.int .i64 vk, .int .i64 vn, .string vs, .slice va vl vc] VT)).alloc (.cells #[.int .i64 uk, .int .i64 un, .string us, .slice ua ul uc] VT)) := bl_alloc (bl_alloc (bl_alloc (bl_alloc (Below.refl _ _) _) _) _) _
  have x0 : Arr (w.alloc (.cells #[.int .i64 pk, .string ps, .slice pa pl pc, .int .i64 pn, .slice pa2 pl2 pc2] PAT5)) w.heap.size PAT5 [.int .i64 pk, .string ps, .slice pa pl pc, .int .i64 pn, .slice pa2 pl2 pc2] := ⟨heap_alloc_at _ _⟩
  have X0 : Hid (Arr ((((w.alloc (.cells #[.int .i64 pk, .string ps, .slice pa pl pc, .int .i64 pn, .slice pa2 pl2 pc2] PAT5)).alloc (.cells #[.int .i64 qk, .string qs, .slice qa ql qc, .int .i64 qn, .slice qa2 ql2 qc2] PAT5)).alloc (.cells #[.int .i64 vk, .int .i64 vn, .string vs, .slice va vl vc] VT)).alloc (.cells #[.int .i64 uk, .int .i64 un, .string us, .slice ua ul uc] VT)) w.heap.size PAT5 [.int .i64 pk, .string ps, .slice pa pl pc, .int .i64 pn, .slice pa2 pl2 pc2]) := (Arr.stays (Arr.stays (Arr.stays x0 (bl_alloc (Below.refl _ (w.alloc (.cells #[.int .i64 pk, .string ps, .slice pa pl pc, .int .i64 pn, .slice pa2 pl2 pc2] PAT5))) (.cells #[.int .i64 qk, .string qs, .slice qa ql qc, .int .i64 qn, .slice qa2 ql2 qc2] PAT5))) (bl_alloc (Below.refl _ ((w.alloc (.cells #[.int .i64 pk, .string ps, .slice pa pl pc, .int .i64 pn, .slice pa2 pl2 pc2] PAT5)).alloc (.cells #[.int .i64 qk, .string qs, .slice qa ql qc, .int .i64 qn, .slice qa2 ql2 qc2] PAT5))) (.cells #[.int .i64 vk, .int .i64 vn, .string vs, .slice va vl vc] VT))) (bl_alloc (Below.refl _ (((w.alloc (.cells #[.int .i64 pk, .string ps, .slice pa pl pc, .int .i64 pn, .slice pa2 pl2 pc2] PAT5)).alloc (.cells #[.int .i64 qk, .string qs, .slice qa ql qc, .int .i64 qn, .slice qa2 ql2 qc2] PAT5)).alloc (.cells #[.int .i64 vk, .int .i64 vn, .string vs, .slice va vl vc] VT))) (.cells #[.int .i64 uk, .int .i64 un, .string us, .slice ua ul uc] VT)))
  have x1 : Arr ((w.alloc (.cells #[.int .i64 pk, .string ps, .slice pa pl pc, .int .i64 pn, .slice pa2 pl2 pc2] PAT5)).alloc (.cells #[.int .i64 qk, .string qs, .slice qa ql qc, .int .i64 qn, .slice qa2 ql2 qc2] PAT5)) (w.heap.size + 1) PAT5 [.int .i64 qk, .string qs, .slice qa ql qc, .int .i64 qn, .slice qa2 ql2 qc2] := ⟨by have := heap_alloc_at (w.alloc (.cells #[.int .i64 pk, .string ps, .slice pa pl pc, .int .i64 pn, .slice pa2 pl2 pc2] PAT5)) (.cells #[.int .i64 qk, .string qs, .slice qa ql qc, .int .i64 qn, .slice qa2 ql2 qc2] PAT5); rw [size_alloc] at this; exact this⟩
  have X1 : Hid (Arr ((((w.alloc (.cells #[.int .i64 pk, .string ps, .slice pa pl pc, .int .i64 pn, .slice pa2 pl2 pc2] PAT5)).alloc (.cells #[.int .i64 qk, .string qs, .slice qa ql qc, .int .i64 qn, .slice qa2 ql2 qc2] PAT5)).alloc (.cells #[.int .i64 vk, .int .i64 vn, .string vs, .slice va vl vc] VT)).alloc (.cells #[.int .i64 uk, .int .i64 un, .string us, .slice ua ul uc] VT)) (w.heap.size + 1) PAT5 [.int .i64 qk, .string qs, .slice qa ql qc, .int .i64 qn, .slice qa2 ql2 qc2]) := (Arr.stays (Arr.stays x1 (bl_alloc (Below.refl _ ((w.alloc (.cells #[.int .i64 pk, .string ps, .slice pa pl pc, .int .i64 pn, .slice pa2 pl2 pc2] PAT5)).alloc (.cells #[.int .i64 qk, .string qs, .slice qa ql qc, .int .i64 qn, .slice qa2 ql2 qc2] PAT5))) (.cells #[.int .i64 vk, .int .i64 vn, .string vs, .slice va vl vc] VT))) (bl_alloc (Below.refl _ (((w.alloc (.cells #[.int .i64 pk, .string ps, .slice pa pl pc, .int .i64 pn, .slice pa2 pl2 pc2] PAT5)).alloc (.cells #[.int .i64 qk, .string qs, .slice qa ql qc, .int .i64 qn, .slice qa2 ql2 qc2] PAT5)).alloc (.cells #[.int .i64 vk, .int .i64 vn, .string vs, .slice va vl vc] VT))) (.cells #[.int .i64 uk, .int .i64 un, .string us, .slice ua ul uc] VT)))
  have x2 : Arr (((w.alloc (.cells #[.int .i64 pk, .string ps, .slice pa pl pc, .int .i64 pn, .slice pa2 pl2 pc2] PAT5)).alloc (.cells #[.int .i64 qk, .string qs, .slice qa ql qc, .int .i64 qn, .slice qa2 ql2 qc2] PAT5)).alloc (.cells #[.int .i64 vk, .int .i64 vn, .string vs, .slice va vl vc] VT)) (w.heap.size + 2) VT [.int .i64 vk, .int .i64 vn, .string vs, .slice va vl vc] := ⟨by have := heap_alloc_at ((w.alloc (.cells #[.int .i64 pk, .string ps, .slice pa pl pc, .int .i64 pn, .slice pa2 pl2 pc2] PAT5)).alloc (.cells #[.int .i64 qk, .string qs, .slice qa ql qc, .int .i64 qn, .slice qa2 ql2 qc2] PAT5)) (.cells #[.int .i64 vk, .int .i64 vn, .string vs, .slice va vl vc] VT); rw [size_alloc, size_alloc] at this; exact this⟩
  have X2 : Hid (Arr ((((w.alloc (.cells #[.int .i64 pk, .string ps, .slice pa pl pc, .int .i64 pn, .slice pa2 pl2 pc2] PAT5)).alloc (.cells #[.int .i64 qk, .string qs, .slice qa ql qc, .int .i64 qn, .slice qa2 ql2 qc2] PAT5)).alloc (.cells #[.int .i64 vk, .int .i64 vn, .string vs, .slice va vl vc] VT)).alloc (.cells #[.int .i64 uk, .int .i64 un, .string us, .slice ua ul uc] VT)) (w.heap.size + 2) VT [.int .i64 vk, .int .i64 vn, .string vs, .slice va vl vc]) := (Arr.stays x2 (bl_alloc (Below.refl _ (((w.alloc (.cells #[.int .i64 pk, .string ps, .slice pa pl pc, .int .i64 pn, .slice pa2 pl2 pc2] PAT5)).alloc (.cells #[.int .i64 qk, .string qs, .slice qa ql qc, .int .i64 qn, .slice qa2 ql2 qc2] PAT5)).alloc (.cells #[.int .i64 vk, .int .i64 vn, .string vs, .slice va vl vc] VT))) (.cells #[.int .i64 uk, .int .i64 un, .string us, .slice ua ul uc] VT)))
  have x3 : Arr ((((w.alloc (.cells #[.int .i64 pk, .string ps, .slice pa pl pc, .int .i64 pn, .slice pa2 pl2 pc2] PAT5)).alloc (.cells #[.int .i64 qk, .string qs, .slice qa ql qc, .int .i64 qn, .slice qa2 ql2 qc2] PAT5)).alloc (.cells #[.int .i64 vk, .int .i64 vn, .string vs, .slice va vl vc] VT)).alloc (.cells #[.int .i64 uk, .int .i64 un, .string us, .slice ua ul uc] VT)) (w.heap.size + 3) VT [.int .i64 uk, .int .i64 un, .string us, .slice ua ul uc] := ⟨by have := heap_alloc_at (((w.alloc (.cells #[.int .i64 pk, .string ps, .slice pa pl pc, .int .i64 pn, .slice pa2 pl2 pc2] PAT5)).alloc (.cells #[.int .i64 qk, .string qs, .slice qa ql qc, .int .i64 qn, .slice qa2 ql2 qc2] PAT5)).alloc (.cells #[.int .i64 vk, .int .i64 vn, .string vs, .slice va vl vc] VT)) (.cells #[.int .i64 uk, .int .i64 un, .string us, .slice ua ul uc] VT); rw [size_alloc, size_alloc, size_alloc] at this; exact this⟩
  have X3 : Hid (Arr ((((w.alloc (.cells #[.int .i64 pk, .string ps, .slice pa pl pc, .int .i64 pn, .slice pa2 pl2 pc2] PAT5)).alloc (.cells #[.int .i64 qk, .string qs, .slice qa ql qc, .int .i64 qn, .slice qa2 ql2 qc2] PAT5)).alloc (.cells #[.int .i64 vk, .int .i64 vn, .string vs, .slice va vl vc] VT)).alloc (.cells #[.int .i64 uk, .int .i64 un, .string us, .slice ua ul uc] VT)) (w.heap.size + 3) VT [.int .i64 uk, .int .i64 un, .string us, .slice ua ul uc]) := x3
  have z0 := X0.out.cell
  have z1 := X1.out.cell
  have z2 := X2.out.cell
  have z3 := X3.out.cell
  have HBL := hid hbl
  clear hbl x0 x1 x2 x3
  go_enter Tryz.func4, Tryz.ntmps4
  go_wp2_with (first
    | (go_at_call 5; have _ := m2; have q1 : Arr (w2.alloc (.cells #[.int .i64 pk, .string ps, .slice pa pl pc, .int .i64 pn, .slice pa2 pl2 pc2, .int .i64 qk, .string qs, .slice qa ql qc, .int .i64 qn, .slice qa2 ql2 qc2] PAT5)) w2.heap.size PAT5 [.int .i64 pk, .string ps, .slice pa pl pc, .int .i64 pn, .slice pa2 pl2 pc2, .int .i64 qk, .string qs, .slice qa ql qc, .int .i64 qn, .slice qa2 ql2 qc2] := ⟨heap_alloc_at _ _⟩; have q2 : Arr ((w2.alloc (.cells #[.int .i64 pk, .string ps, .slice pa pl pc, .int .i64 pn, .slice pa2 pl2 pc2, .int .i64 qk, .string qs, .slice qa ql qc, .int .i64 qn, .slice qa2 ql2 qc2] PAT5)).alloc (.cells #[.int .i64 vk, .int .i64 vn, .string vs, .slice va vl vc, .int .i64 uk, .int .i64 un, .string us, .slice ua ul uc] VT)) (w2.heap.size + 1) VT [.int .i64 vk, .int .i64 vn, .string vs, .slice va vl vc, .int .i64 uk, .int .i64 un, .string us, .slice ua ul uc] := (⟨by have := heap_alloc_at (w2.alloc (.cells #[.int .i64 pk, .string ps, .slice pa pl pc, .int .i64 pn, .slice pa2 pl2 pc2, .int .i64 qk, .string qs, .slice qa ql qc, .int .i64 qn, .slice qa2 ql2 qc2] PAT5)) (.cells #[.int .i64 vk, .int .i64 vn, .string vs, .slice va vl vc, .int .i64 uk, .int .i64 un, .string us, .slice ua ul uc] VT); rw [size_alloc] at this; exact this⟩); have bB : Below w2.heap.size w2 ((w2.alloc (.cells #[.int .i64 pk, .string ps, .slice pa pl pc, .int .i64 pn, .slice pa2 pl2 pc2, .int .i64 qk, .string qs, .slice qa ql qc, .int .i64 qn, .slice qa2 ql2 qc2] PAT5)).alloc (.cells #[.int .i64 vk, .int .i64 vn, .string vs, .slice va vl vc, .int .i64 uk, .int .i64 un, .string us, .slice ua ul uc] VT)) := bl_alloc (bl_alloc (Below.refl _ _) _) _; refine (HF3.out _ w2.heap.size (w2.heap.size + 1) (bl_tr B2.out bB) (Arr.stays q1 (bl_alloc (Below.refl _ _) _)).all q2.all).mono ?_; rintro e w3 ⟨⟨a3, c3, d3, e3, rfl, hA3, hL3⟩, b3⟩; have B3 := hid (bl_tr (bl_tr B2.out bB) b3); have SA3 := hid (StL.below SA2.out (bl_tr bB b3)); have SL3 := hid (vl_below SL2.out (bl_tr bB b3)); have SC3 := hid (StL.below SC2.out (bl_tr bB b3)); have SM3 := hid (vl_below SM2.out (bl_tr bB b3)); have SN3 := hid hA3; have SP3 := hid hL3; clear hA3 hL3 SA2 SL2 SC2 SM2; clear b3 bB q1 q2 m2; have m3 := True.intro)
    | (go_at_call 5; have _ := m1; refine (HF2.out _ B1.out).mono ?_; rintro e w2 ⟨⟨a2, c2, d2, e2, rfl, hA2, hL2⟩, b2⟩; have B2 := hid (bl_tr B1.out b2); have V0 := hid (Y0.out.stays b2); have v0 := V0.out.cell; have V1 := hid (Y1.out.stays b2); have v1 := V1.out.cell; have V2 := hid (Y2.out.stays b2); have v2 := V2.out.cell; have V3 := hid (Y3.out.stays b2); have v3 := V3.out.cell; have bA := bl_alloc (Below.refl _ w2) (.cells #[.int .i64 pk, .string ps, .slice pa pl pc, .int .i64 pn, .slice pa2 pl2 pc2, .int .i64 qk, .string qs, .slice qa ql qc, .int .i64 qn, .slice qa2 ql2 qc2] PAT5); have t2 := (V2.out.stays bA).cell; have t3 := (V3.out.stays bA).cell; have SA2 := hid (StL.below SA1.out b2); have SL2 := hid (vl_below SL1.out b2); have SC2 := hid hA2; have SM2 := hid hL2; clear hA2 hL2 SA1 SL1; clear b2 bA m1; have m2 := True.intro)
    | (go_at_call 5; refine (HF1.out _ HBL.out).mono ?_; rintro e w1 ⟨⟨a1, c1, d1, e1, rfl, hA1, hL1⟩, b1⟩; have B1 := hid (bl_tr HBL.out b1); have Y0 := hid (X0.out.stays b1); have y0 := Y0.out.cell; have Y1 := hid (X1.out.stays b1); have y1 := Y1.out.cell; have Y2 := hid (X2.out.stays b1); have y2 := Y2.out.cell; have Y3 := hid (X3.out.stays b1); have y3 := Y3.out.cell; have SA1 := hid hA1; have SL1 := hid hL1; clear hA1 hL1; clear b1; have m1 := True.intro)
    | (go_at_call 7; have _ := m3; refine (alive_any _).mono ?_; rintro e w4 ⟨rfl, b4⟩; have B4 := hid (bl_tr B3.out b4); have SA := hid (sr_st HLA.out (StL.below SA3.out b4)); have SC := hid (sr_st HLC.out (StL.below SC3.out b4)); obtain ⟨n1, vL, hvL, hsL, heL⟩ := sr_vl HLL.out (vl_below SL3.out b4); obtain ⟨n2, vM, hvM, hsM, heM⟩ := sr_vl HLM.out (vl_below SM3.out b4); have SL := hid hsL; have SM := hid hsM; have HEL := hid heL; have HEM := hid heM; have HVL := hid hvL; have SN := hid (StL.below SN3.out b4); have SP := hid (vl_below SP3.out b4); clear SA3 SL3 SC3 SM3 SN3 SP3 hsL hsM heL heM hvL hvM; clear b4 m3; have m4 := True.intro)
    | (at_builtin; have _ := m4; refine wp_app rfl _ _ 22 rfl w4.heap.size STT i0 (.string ⟨#[]⟩) 1 16 Tryz.underlying22 hi0 hz0 hz1 hz2 rfl (by decide) _ 0 [] rfl (row_new _ _ _) (.slice a1 l1 c1) l1 (A.map strV) rfl (SA.out.below (bl_alloc (Below.refl _ _) _)) (by omega) (by decide) (by simp) ?_; intro v5 w5 hown hb; rw [Nat.zero_add, List.nil_append] at hown; have B5 : Hid (Below w4.heap.size w4 w5) := (bl_alloc (Below.refl _ _) _).trans hb; have O5 := hid hown; clear hb hown m4; have m5 := True.intro)
    | (at_builtin; have _ := m5; refine wp_app rfl _ _ 22 rfl w4.heap.size STT i0 (.string ⟨#[]⟩) 1 16 Tryz.underlying22 hi0 hz0 hz1 hz2 rfl (by decide) _ l1 (A.map strV) rfl O5.out (.slice a2 l2 c2) l2 (C.map strV) rfl (SC.out.below B5.out) (by omega) (by decide) B5.out.size ?_; intro v6 w6 hown hb; obtain ⟨p6, c6, rfl⟩ := own_form hown; have B6 : Hid (Below w4.heap.size w4 w6) := B5.out.trans hb; have O6 := hid (own_names HLA.out hown); clear hb hown m5 O5; have m6 := True.intro)
    | (at_builtin; have _ := m6; refine wp_app rfl _ _ 26 rfl w6.heap.size VT j0 (.agg #[.int .i64 0, .int .i64 0, .string { data := #[] }, .slice none 0 0]) 4 56 Tryz.underlying26 hj0 hy0 hy1 hy2 rfl (by decide) _ 0 [] rfl (row_new _ _ _) (.slice d1 l1 e1) l1 vL rfl (SL.out.below (bl_tr B6.out (bl_alloc (Below.refl _ _) _))) (by omega) (by decide) (by simp) ?_; intro v7 w7 hown hb; rw [Nat.zero_add, List.nil_append] at hown; have B7 : Hid (Below w6.heap.size w6 w7) := (bl_alloc (Below.refl _ _) _).trans hb; have O7 := hid hown; clear hb hown m6; have m7 := True.intro)
    | (at_builtin; have _ := m7; refine wp_app rfl _ _ 26 rfl w6.heap.size VT j0 (.agg #[.int .i64 0, .int .i64 0, .string { data := #[] }, .slice none 0 0]) 4 56 Tryz.underlying26 hj0 hy0 hy1 hy2 rfl (by decide) _ l1 vL rfl O7.out (.slice d2 l2 e2) l2 vM rfl (SM.out.below (bl_tr B6.out B7.out)) (by omega) (by decide) B7.out.size ?_; intro v8 w8 hown hb; obtain ⟨p8, c8, rfl⟩ := own_form hown; have B8 : Hid (Below w6.heap.size w6 w8) := B7.out.trans hb; have O8 := hid hown; clear hb hown m7 O7; have m8 := True.intro))
  have QN := hid (StL.below SN.out (B6.out.trans (B8.out.mono B6.out.size)))
  have QP := hid (vl_below SP.out (B6.out.trans (B8.out.mono B6.out.size)))
  have QM := hid (StL.below (own_st' (l := A ++ C) (by rw [List.length_append, HLA.out, HLC.out]) O6.out) B8.out)
  have QV := hid (own_vals' (l := L ++ M) (F := w4.heap.size) (by rw [List.length_append, HLL.out, HLM.out]) O8.out (two_els HVL.out (fun i x hx => by obtain ⟨vs, q1, q2⟩ := HEL.out i x hx; exact ⟨vs, q1.below (B6.out.trans (B8.out.mono B6.out.size)), q2⟩) (fun i x hx => by obtain ⟨vs, q1, q2⟩ := HEM.out i x hx; exact ⟨vs, q1.below (B6.out.trans (B8.out.mono B6.out.size)), q2⟩)))
  have BW := hid (bl_tr B4.out (B6.out.trans (B8.out.mono B6.out.size)))
  have HN1 : Hid ((A ++ C).length = l1 + l2) := by show _ = _; rw [List.length_append, HLA.out, HLC.out]
  have HN2 : Hid ((L ++ M).length = l1 + l2) := by show _ = _; rw [List.length_append, HLL.out, HLM.out]
  clear SN SP O6 O8 HEL HEM HVL SA SC SL SM HLA HLC HLL HLM B1 B2 B3 B4 B5 B6 B7 B8 hi0 hz0 hz1 hz2 hj0 hy0 hy1 hy2
  generalize A ++ C = NN at QN QM HN1
  generalize L ++ M = LL at QP QV HN2
  generalize hln : l1 + l2 = ln at QN QP QM QV HN1 HN2 ⊢
  obtain ⟨nP, QP'⟩ := QP.out
  have QP := hid QP'
  have hln2 : ln ≤ 2097152 := by omega
  clear QP' hln
  go_loopw [20] (fun v wr => ∃ i : Nat, v = .int .i64 i ∧ i ≤ ln ∧ Hid (Below w8.heap.size w8 wr)) (fun v _ => ln - (intOf v).toNat)
  case atStart => exact ⟨0, rfl, Nat.zero_le _, Below.refl _ _⟩
  case round =>
    obtain ⟨i, rfl, hi, hR⟩ := hrel
    by_cases hlt : i < ln
    · have hltN : i < NN.length := by rw [HN1.out]; exact hlt
      have hltL : i < LL.length := by rw [HN2.out]; exact hlt
      obtain ⟨x, hx⟩ : ∃ x, NN[i]? = some x := ⟨_, List.getElem?_eq_getElem hltN⟩
      obtain ⟨y, hy⟩ : ∃ y, LL[i]? = some y := ⟨_, List.getElem?_eq_getElem hltL⟩
      clear hltN hltL
      obtain ⟨cb, co, rfl, -, s1, f1, f2, rfl⟩ := GRow.elem (grow_len HN1.out QN.out) hx
      obtain ⟨nb, no, rfl, -, s2, f3, f4, rfl⟩ := GRow.elem (grow_len HN1.out QM.out) hx
      obtain ⟨b, o, rfl, -, xs, g1, g2, g3⟩ := GRow.elem (grow_len HN2.out QP.out) hy
      obtain ⟨b', o', rfl, -, ys, g4, g5, g6⟩ := GRow.elem (grow_len HN2.out QV.out) hy
      obtain ⟨xa, xc, rfl, -⟩ := g3.form
      obtain ⟨ya, yc, rfl, -⟩ := g6.form
      have hbw : Below w8.heap.size w8 wr.drew := hR.out.drew
      have s0 : wr.drew.cell? ⟨cb, co + i, none⟩ = some (.string x) ∧ wr.drew.cell? ⟨nb, no + i, none⟩ = some (.string x) ∧ wr.drew.cell? ⟨b, o + i * 4, none⟩ = some (.int .i64 y.k) ∧ wr.drew.cell? ⟨b, o + i * 4 + 1, none⟩ = some (.int .i64 y.n) ∧ wr.drew.cell? ⟨b, o + i * 4 + 2, none⟩ = some (.string y.s) ∧ wr.drew.cell? ⟨b, o + i * 4 + 3, none⟩ = some (.slice xa y.ks.length xc) ∧ wr.drew.cell? ⟨b', o' + i * 4, none⟩ = some (.int .i64 y.k) ∧ wr.drew.cell? ⟨b', o' + i * 4 + 1, none⟩ = some (.int .i64 y.n) ∧ wr.drew.cell? ⟨b', o' + i * 4 + 2, none⟩ = some (.string y.s) ∧ wr.drew.cell? ⟨b', o' + i * 4 + 3, none⟩ = some (.slice ya y.ks.length yc) := by
        refine ⟨?_, ?_, ?_, ?_, ?_, ?_, ?_, ?_, ?_, ?_⟩
        · have := f2 0 _ rfl; rw [Nat.add_zero, Nat.mul_one] at this; exact (hbw.cell (World.block_lt_of_cell? _ _ this)).trans this
        · have := f4 0 _ rfl; rw [Nat.add_zero, Nat.mul_one] at this; exact (hbw.cell (World.block_lt_of_cell? _ _ this)).trans this
        · have := g2 0 _ rfl; rw [Nat.add_zero] at this; exact (hbw.cell (World.block_lt_of_cell? _ _ this)).trans this
        · have := g2 1 _ rfl; exact (hbw.cell (World.block_lt_of_cell? _ _ this)).trans this
        · have := g2 2 _ rfl; exact (hbw.cell (World.block_lt_of_cell? _ _ this)).trans this
        · have := g2 3 _ rfl; exact (hbw.cell (World.block_lt_of_cell? _ _ this)).trans this
        · have := g5 0 _ rfl; rw [Nat.add_zero] at this; exact (hbw.cell (World.block_lt_of_cell? _ _ this)).trans this
        · have := g5 1 _ rfl; exact (hbw.cell (World.block_lt_of_cell? _ _ this)).trans this
        · have := g5 2 _ rfl; exact (hbw.cell (World.block_lt_of_cell? _ _ this)).trans this
        · have := g5 3 _ rfl; exact (hbw.cell (World.block_lt_of_cell? _ _ this)).trans this
      have hk := hid (fun wz (hb : Below wr.drew.heap.size wr.drew wz) => prKeep hb s0)
      have hQ := hid (same_any _ wr.drew _ _ _ y (g3.below hbw) (g6.below hbw))
      clear g1 g2 g3 g4 g5 g6 f1 f2 f3 f4 hx hy hbw
      go_wp2
      refine wp_region_held_drew (S := fun wz => wz.cell? ⟨cb, co + i, none⟩ = some (.string x) ∧ wz.cell? ⟨nb, no + i, none⟩ = some (.string x) ∧ wz.cell? ⟨b, o + i * 4, none⟩ = some (.int .i64 y.k) ∧ wz.cell? ⟨b, o + i * 4 + 1, none⟩ = some (.int .i64 y.n) ∧ wz.cell? ⟨b, o + i * 4 + 2, none⟩ = some (.string y.s) ∧ wz.cell? ⟨b, o + i * 4 + 3, none⟩ = some (.slice xa y.ks.length xc) ∧ wz.cell? ⟨b', o' + i * 4, none⟩ = some (.int .i64 y.k) ∧ wz.cell? ⟨b', o' + i * 4 + 1, none⟩ = some (.int .i64 y.n) ∧ wz.cell? ⟨b', o' + i * 4 + 2, none⟩ = some (.string y.s) ∧ wz.cell? ⟨b', o' + i * 4 + 3, none⟩ = some (.slice ya y.ks.length yc)) (by kernel_rfl) (s0) (fun hS => ?_)
      refine wpAnyH_take (i := 0) (v := ?_) rfl (by kernel_rfl) (by kernel_rfl) (by kernel_rfl) (fun _ _ _ h => h) (Or.inl ⟨by rfl, ?_⟩) hS ?_
      rotate_left
      · intro wz hz; go_simp; try with_reducible rfl
      try simp only [Act.put, List.setIfInBounds_toArray, List.set_cons_zero, List.set_cons_succ, List.getElem_toArray, List.getElem_cons_succ, List.getElem_cons_zero]
      refine wpAnyH_take (i := 1) (v := ?_) rfl (by kernel_rfl) (by kernel_rfl) (by kernel_rfl) (fun _ _ _ h => h) (Or.inl ⟨by rfl, ?_⟩) hS ?_
      rotate_left
      · intro wz hz; go_simp; try with_reducible rfl
      try simp only [Act.put, List.setIfInBounds_toArray, List.set_cons_zero, List.set_cons_succ, List.getElem_toArray, List.getElem_cons_succ, List.getElem_cons_zero]
      refine wpAnyH_take (i := 2) (v := ?_) rfl (by kernel_rfl) (by kernel_rfl) (by kernel_rfl) (fun _ _ _ h => h) (Or.inl ⟨by rfl, ?_⟩) hS ?_
      rotate_left
      · intro wz hz; go_simp; try with_reducible rfl
      try simp only [Act.put, List.setIfInBounds_toArray, List.set_cons_zero, List.set_cons_succ, List.getElem_toArray, List.getElem_cons_succ, List.getElem_cons_zero]
      refine wpAnyH_take (i := 3) (v := ?_) rfl (by kernel_rfl) (by kernel_rfl) (by kernel_rfl) (fun _ _ _ h => h) (Or.inl ⟨by rfl, ?_⟩) hS ?_
      rotate_left
      · intro wz hz; obtain ⟨yy0, yy1, yy2, yy3, yy4, yy5, yy6, yy7, yy8, yy9⟩ := hz; go_simp; try with_reducible rfl
      try simp only [Act.put, List.setIfInBounds_toArray, List.set_cons_zero, List.set_cons_succ, List.getElem_toArray, List.getElem_cons_succ, List.getElem_cons_zero]
      refine wpAnyH_take (i := 4) (v := ?_) rfl (by kernel_rfl) (by kernel_rfl) (by kernel_rfl) (fun _ _ _ h => h) (Or.inl ⟨by rfl, ?_⟩) hS ?_
      rotate_left
      · intro wz hz; go_simp; try with_reducible rfl
      try simp only [Act.put, List.setIfInBounds_toArray, List.set_cons_zero, List.set_cons_succ, List.getElem_toArray, List.getElem_cons_succ, List.getElem_cons_zero]
      refine wpAnyH_take (i := 5) (v := ?_) rfl (by kernel_rfl) (by kernel_rfl) (by kernel_rfl) (fun _ _ _ h => h) (Or.inl ⟨by rfl, ?_⟩) hS ?_
      rotate_left
      · intro wz hz; go_simp; try with_reducible rfl
      try simp only [Act.put, List.setIfInBounds_toArray, List.set_cons_zero, List.set_cons_succ, List.getElem_toArray, List.getElem_cons_succ, List.getElem_cons_zero]
      refine wpAnyH_take (i := 6) (v := ?_) rfl (by kernel_rfl) (by kernel_rfl) (by kernel_rfl) (fun _ _ _ h => h) (Or.inl ⟨by rfl, ?_⟩) hS ?_
      rotate_left
      · intro wz hz; go_simp; try with_reducible rfl
      try simp only [Act.put, List.setIfInBounds_toArray, List.set_cons_zero, List.set_cons_succ, List.getElem_toArray, List.getElem_cons_succ, List.getElem_cons_zero]
      refine wpAnyH_take (i := 7) (v := ?_) rfl (by kernel_rfl) (by kernel_rfl) (by kernel_rfl) (fun _ _ _ h => h) (Or.inl ⟨by rfl, ?_⟩) hS ?_
      rotate_left
      · intro wz hz; obtain ⟨yy0, yy1, yy2, yy3, yy4, yy5, yy6, yy7, yy8, yy9⟩ := hz; go_simp; try with_reducible rfl
      try simp only [Act.put, List.setIfInBounds_toArray, List.set_cons_zero, List.set_cons_succ, List.getElem_toArray, List.getElem_cons_succ, List.getElem_cons_zero]
      refine wpAnyH_take (i := 8) (v := .bool false) rfl (by kernel_rfl) (by kernel_rfl) (by kernel_rfl) (fun _ _ _ h => h) (Or.inl ⟨by rfl, ?_⟩) hS ?_
      · intro wz hz; go_simp; try with_reducible rfl
      try simp only [Act.put, List.setIfInBounds_toArray, List.set_cons_zero, List.set_cons_succ, List.getElem_toArray, List.getElem_cons_succ, List.getElem_cons_zero]
      refine wpAnyH_take (i := 9) (v := ?_) rfl (by kernel_rfl) (by kernel_rfl) (by kernel_rfl) (fun _ _ _ h => h) (Or.inl ⟨by rfl, ?_⟩) hS ?_
      rotate_left
      · intro wz hz; go_simp; try with_reducible rfl
      try simp only [Act.put, List.setIfInBounds_toArray, List.set_cons_zero, List.set_cons_succ, List.getElem_toArray, List.getElem_cons_succ, List.getElem_cons_zero]
      refine wpAnyH_take (i := 10) (v := ?_) rfl (by kernel_rfl) (by kernel_rfl) (by kernel_rfl) (fun _ _ _ h => h) (Or.inl ⟨by rfl, ?_⟩) hS ?_
      rotate_left
      · intro wz hz; go_simp; try with_reducible rfl
      try simp only [Act.put, List.setIfInBounds_toArray, List.set_cons_zero, List.set_cons_succ, List.getElem_toArray, List.getElem_cons_succ, List.getElem_cons_zero]
      refine wpAnyH_take (i := 11) (v := ?_) rfl (by kernel_rfl) (by kernel_rfl) (by kernel_rfl) (fun _ _ _ h => h) (Or.inl ⟨by rfl, ?_⟩) hS ?_
      rotate_left
      · intro wz hz; go_simp; try with_reducible rfl
      try simp only [Act.put, List.setIfInBounds_toArray, List.set_cons_zero, List.set_cons_succ, List.getElem_toArray, List.getElem_cons_succ, List.getElem_cons_zero]
      refine wpAnyH_take (i := 12) (v := ?_) rfl (by kernel_rfl) (by kernel_rfl) (by kernel_rfl) (fun _ _ _ h => h) (Or.inl ⟨by rfl, ?_⟩) hS ?_
      rotate_left
      · intro wz hz; go_simp; try with_reducible rfl
      try simp only [Act.put, List.setIfInBounds_toArray, List.set_cons_zero, List.set_cons_succ, List.getElem_toArray, List.getElem_cons_succ, List.getElem_cons_zero]
      refine wpAnyH_take (i := 13) (v := ?_) rfl (by kernel_rfl) (by kernel_rfl) (by kernel_rfl) (fun _ _ _ h => h) (Or.inl ⟨by rfl, ?_⟩) hS ?_
      rotate_left
      · intro wz hz; obtain ⟨yy0, yy1, yy2, yy3, yy4, yy5, yy6, yy7, yy8, yy9⟩ := hz; go_simp; try with_reducible rfl
      try simp only [Act.put, List.setIfInBounds_toArray, List.set_cons_zero, List.set_cons_succ, List.getElem_toArray, List.getElem_cons_succ, List.getElem_cons_zero]
      refine wpAnyH_take (i := 14) (v := ?_) rfl (by kernel_rfl) (by kernel_rfl) (by kernel_rfl) (fun _ _ _ h => h) (Or.inl ⟨by rfl, ?_⟩) hS ?_
      rotate_left
      · intro wz hz; go_simp; try with_reducible rfl
      try simp only [Act.put, List.setIfInBounds_toArray, List.set_cons_zero, List.set_cons_succ, List.getElem_toArray, List.getElem_cons_succ, List.getElem_cons_zero]
      refine wpAnyH_take (i := 15) (v := ?_) rfl (by kernel_rfl) (by kernel_rfl) (by kernel_rfl) (fun _ _ _ h => h) (Or.inl ⟨by rfl, ?_⟩) hS ?_
      rotate_left
      · intro wz hz; go_simp; try with_reducible rfl
      try simp only [Act.put, List.setIfInBounds_toArray, List.set_cons_zero, List.set_cons_succ, List.getElem_toArray, List.getElem_cons_succ, List.getElem_cons_zero]
      refine wpAnyH_take (i := 16) (v := ?_) rfl (by kernel_rfl) (by kernel_rfl) (by kernel_rfl) (fun _ _ _ h => h) (Or.inl ⟨by rfl, ?_⟩) hS ?_
      rotate_left
      · intro wz hz; go_simp; try with_reducible rfl
      try simp only [Act.put, List.setIfInBounds_toArray, List.set_cons_zero, List.set_cons_succ, List.getElem_toArray, List.getElem_cons_succ, List.getElem_cons_zero]
      refine wpAnyH_take (i := 17) (v := ?_) rfl (by kernel_rfl) (by kernel_rfl) (by kernel_rfl) (fun _ _ _ h => h) (Or.inl ⟨by rfl, ?_⟩) hS ?_
      rotate_left
      · intro wz hz; obtain ⟨yy0, yy1, yy2, yy3, yy4, yy5, yy6, yy7, yy8, yy9⟩ := hz; go_simp; try with_reducible rfl
      try simp only [Act.put, List.setIfInBounds_toArray, List.set_cons_zero, List.set_cons_succ, List.getElem_toArray, List.getElem_cons_succ, List.getElem_cons_zero]
      refine wpAnyH_ready (rs := [18]) (by kernel_rfl) (by simp) (AllReadyH.cons rfl (fun K hK => ?a1_18) AllReadyH.nil)
      case' a1_18 =>
        go_simp
        refine hQ.out.mono ?_
        rintro e w9 ⟨rfl, b9⟩
        have B9 := hid b9
        clear b9
        refine hK.out _ _ ((hk.out _ B9.out)) (fun hSn => ?_)
        clear hK K hS
        have hS := hSn
        clear hSn
        try simp only [Act.put, List.setIfInBounds_toArray, List.set_cons_zero, List.set_cons_succ, List.getElem_toArray, List.getElem_cons_succ, List.getElem_cons_zero]
        refine wpAnyH_take (i := 19) (v := ?_) rfl (by kernel_rfl) (by kernel_rfl) (by kernel_rfl) (fun _ _ _ h => h) (Or.inl ⟨by rfl, ?_⟩) hS ?_
        rotate_left
        · intro wz hz; go_simp; try with_reducible rfl
        try simp only [Act.put, List.setIfInBounds_toArray, List.set_cons_zero, List.set_cons_succ, List.getElem_toArray, List.getElem_cons_succ, List.getElem_cons_zero]
        refine wpAnyH_take (i := 20) (v := ?_) rfl (by kernel_rfl) (by kernel_rfl) (by kernel_rfl) (fun _ _ _ h => h) (Or.inl ⟨by rfl, ?_⟩) hS ?_
        rotate_left
        · intro wz hz; go_simp; try with_reducible rfl
        try simp only [Act.put, List.setIfInBounds_toArray, List.set_cons_zero, List.set_cons_succ, List.getElem_toArray, List.getElem_cons_succ, List.getElem_cons_zero]
        refine wpAnyH_done (by kernel_rfl) ?_ _
      go_wp2
      go_roundw
      case rel => exact ⟨i + 1, by go_num, by omega, bl_tr hR.out (bl_tr (Below.refl _ _).drew B9.out)⟩
      case measure => simp [intOf]; omega
    · obtain rfl : i = ln := by omega
      go_wp2
      go_ret
      exact ⟨rfl, bl_tr BW.out hR.out⟩
end Go.Proofs.YtjodgnkhociaaaaGreat
