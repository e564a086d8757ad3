/- record and Str of alive's structure. -/
import Derived.Test.YtigliglmejkakaaGreatRay
namespace Go.Proofs.YtigliglmejkakaaGreat
open Go.RowKit Go.Shelf Go.Sort
set_option linter.unusedVariables false
set_option linter.unusedSimpArgs false

theorem holds_on {w w' : World} {lb : Nat} {d : Array (List UInt8)} {B : Nat} (h : Holds encStr w lb 0 d) (hb : Below B w w') (hl : lb < B) : Holds encStr w' lb 0 d := fun j hj => by
  obtain ⟨h1, h2⟩ := h j hj
  exact ⟨(hb.cell (p := ⟨lb, 0 + j, none⟩) hl).trans h1, by rw [← h2]; unfold World.frozen?; rw [hb.block lb hl]⟩
/-- A row of so many cells. -/
def Row12 (w : World) (g : Nat) : Prop := ∃ cur : List Value, cur.length = 12 ∧ Arr w g 28 cur
theorem Row12.stays {w w' : World} {g : Nat} (h : Row12 w g) (hb : Below w.heap.size w w') : Row12 w' g := by
  obtain ⟨cur, h1, h2⟩ := h
  exact ⟨cur, h1, h2.stays hb⟩
theorem Row12.set {w : World} {g : Nat} (h : Row12 w g) (j : Nat) (u : Value) : Row12 (w.setCell ⟨g, j, none⟩ u) g := by
  obtain ⟨cur, h1, h2⟩ := h
  exact ⟨cur.set j u, by rw [List.length_set]; exact h1, h2.set j u⟩
theorem Row12.cell {w : World} {g : Nat} (h : Row12 w g) (j : Nat) (hj : j < 12) : ∃ u, w.cell? ⟨g, j, none⟩ = some u := by
  obtain ⟨cur, h1, h2⟩ := h
  exact ⟨_, (h2.cell j).trans (List.getElem?_eq_getElem (by omega))⟩
theorem Row12.frozen {w : World} {g : Nat} (h : Row12 w g) (j : Nat) : w.frozen? ⟨g, j, none⟩ = false := by
  obtain ⟨cur, h1, h2⟩ := h
  exact h2.frozen j
/-- What record's rounds find: the fields, and what lies behind them. -/
structure Rec14 (w0 : World) (P tb r fb fo m b0 b1 lb : Nat) (a0 a1 : Option Addr) (p0 p1 : Nat) (w : World) : Prop where
  f0 : w.cell? ⟨fb, fo, none⟩ = some (.string ⟨bO.toArray⟩)
  f1 : w.cell? ⟨fb, fo + 1, none⟩ = some (.func (.func 127) #[] #[.pointer (some ⟨m, 0, none⟩)])
  f2 : w.cell? ⟨fb, fo + 2, none⟩ = some (.string ⟨bN.toArray⟩)
  f3 : w.cell? ⟨fb, fo + 3, none⟩ = some (.func (.func 130) #[] #[.pointer (some ⟨m, 0, none⟩), .pointer (some ⟨b0, 0, none⟩)])
  f4 : w.cell? ⟨fb, fo + 4, none⟩ = some (.string ⟨bC.toArray⟩)
  f5 : w.cell? ⟨fb, fo + 5, none⟩ = some (.func (.func 130) #[] #[.pointer (some ⟨m, 0, none⟩), .pointer (some ⟨b1, 0, none⟩)])
  fm : Arr w m 216 [.pointer (some ⟨tb, 0, none⟩)]
  ftm : Arr w tb 67 [.string (ByteArray.mk #[116]), .int .i64 6, .int .i64 5, .slice none 0 0, .slice (some ⟨r, 0, none⟩) 2 2]
  fn : Arr w b0 125 [.string (ByteArray.mk #[78, 105, 108]), .slice a0 0 p0]
  fk : Arr w b1 125 [.string (ByteArray.mk #[67, 111, 110, 115]), .slice a1 1 p1]
  fl : Holds encStr w lb 0 #[bC, bN, bO]
  flt : fb < lb ∧ m < lb ∧ tb < lb ∧ b0 < lb ∧ b1 < lb
theorem Rec14.on {w0 w w' : World} {P tb r fb fo m b0 b1 lb B : Nat} {a0 a1 : Option Addr} {p0 p1 : Nat} (h : Rec14 w0 P tb r fb fo m b0 b1 lb a0 a1 p0 p1 w) (hb : Below B w w') (hl : lb < B) : Rec14 w0 P tb r fb fo m b0 b1 lb a0 a1 p0 p1 w' := by
  obtain ⟨h1, h2, h3, h4, h5⟩ := h.flt
  have hc : ∀ (o : Nat) u, w.cell? ⟨fb, o, none⟩ = some u → w'.cell? ⟨fb, o, none⟩ = some u := fun o u hu => (hb.cell (p := ⟨fb, o, none⟩) (by show fb < B; omega)).trans hu
  exact ⟨hc _ _ h.f0, hc _ _ h.f1, hc _ _ h.f2, hc _ _ h.f3, hc _ _ h.f4, hc _ _ h.f5, ⟨(hb.block m (by omega)).trans h.fm.b⟩, ⟨(hb.block tb (by omega)).trans h.ftm.b⟩, ⟨(hb.block b0 (by omega)).trans h.fn.b⟩, ⟨(hb.block b1 (by omega)).trans h.fk.b⟩, holds_on h.fl hb hl, h.flt⟩
theorem own_cells {w : World} {base n : Nat} {e : TypeId} {size : Nat} {v : Value} {xs : List Value} (h : w.ownsRow base e size v n xs) (hn : 0 < n) : ∃ g c, v = .slice (some ⟨g, 0, none⟩) n c ∧ g < w.heap.size ∧ ∀ (j : Nat) u, xs[j]? = some u → w.cell? ⟨g, j, none⟩ = some u := by
  rcases h.2 with ⟨rfl, h0⟩ | ⟨g, cap, cur, rfl, hb, hh, hle, hcm, hsz, htk⟩
  · omega
  · refine ⟨g, cap, rfl, ?_, fun j u hu => ?_⟩
    · rcases Nat.lt_or_ge g w.heap.size with h' | h'
      · exact h'
      · simp [Array.getElem?_eq_none h'] at hh
    · rw [cell_at hh]
      rw [← htk, List.getElem?_take] at hu
      split at hu
      · rw [Array.getElem?_toList] at hu; exact hu
      · cases hu

theorem ctl_second {w : World} {r : Nat} {a1 : Option Addr} {p1 : Nat} (hl : CtL w Any 2 (.slice (some ⟨r, 0, none⟩) 2 2) listC) (h3 : w.cell? ⟨r, 3, none⟩ = some (.slice a1 1 p1)) : CtAt w Any 2 [.string (ByteArray.mk #[67, 111, 110, 115]), .slice a1 1 p1] ⟨(ByteArray.mk #[67, 111, 110, 115]), [listT]⟩ := by
  rcases hl with ⟨b, o, cp, hv, -, -, -, h5⟩ | ⟨h, -⟩
  · injection hv with e1 e2 e3
    injection e1 with e1
    injection e1 with e1 e4
    subst e1
    subst e4
    obtain ⟨vs, g1, g2⟩ := h5 1 _ rfl
    obtain ⟨ga, gc, rfl, -⟩ := g2.form
    have := g1 1 _ rfl
    simp only [Nat.zero_add, Nat.one_mul] at this
    rw [show (2 : Nat) + 1 = 3 from rfl, h3] at this
    injection this with this
    injection this with e5 e6 e7
    subst e5
    subst e7
    exact g2
  · cases h

set_option maxHeartbeats 4000000 in
set_option maxRecDepth 100000 in
theorem record14 (w : World) (P tb r : Nat) (hS : ∃ a0 p0 a1 p1, Str14 P tb r a0 a1 p0 p1 w) (hl : CtL w Any 2 (.slice (some ⟨r, 0, none⟩) 2 2) listC) :
    Calls Tryz.prog 43 #[.pointer (some ⟨P, 0, none⟩)] w fun e w' => (∃ lb kb, e = .returned (.tuple #[.agg #[.int .i64 7, .int .i64 0, .slice (some ⟨lb, 0, none⟩) 3 3, .slice (some ⟨kb, 0, none⟩) 3 3], .int .i64 0]) ∧ w'.cell? ⟨lb, 0, none⟩ = some (.string ⟨bC.toArray⟩) ∧ w'.cell? ⟨lb, 2, none⟩ = some (.string ⟨bO.toArray⟩) ∧ lb < w'.heap.size) ∧ Below w.heap.size w w' := by
  obtain ⟨a0, p0, a1, p1, hS⟩ := hS
  have HB1 : Hid (Below w.heap.size w (w.alloc (.cells #[.int .i64 0, .int .i64 0, .slice none 0 0, .slice none 0 0] 28))) := bl_alloc (Below.refl _ _) _
  have Y1 : Hid (Arr (w.alloc (.cells #[.int .i64 0, .int .i64 0, .slice none 0 0, .slice none 0 0] 28)) w.heap.size 28 [.int .i64 0, .int .i64 0, .slice none 0 0, .slice none 0 0]) := ⟨heap_alloc_at _ _⟩
  have HS1 := hid (hS.on HB1.out hS.p.lt hS.m.lt (World.block_lt_of_cell? _ _ hS.c0))
  have HL := hid hl
  have HSS : Hid (∀ (W : World) i u, Below w.heap.size w W → Below w.heap.size w (W.setCell ⟨w.heap.size, i, none⟩ u)) := fun W i u h => bl_set _ _ h (Nat.le_refl _)
  have htb : tb < w.heap.size := hS.m.lt
  obtain ⟨M, hM, hmk⟩ := made_tts 3
  have hmk2 : ∀ wz, (Instr.makeSlice 26 (.int .i64 3) (.int .i64 3)).run Tryz.prog wz = .ok (.slice (some ⟨wz.heap.size, 0, none⟩) 3 3) (wz.alloc (.cells M 28)) := fun wz => hmk wz (by omega)
  have HCK : Hid (∀ wz, Below w.heap.size w wz → CtAt wz Any 2 [.string (ByteArray.mk #[67, 111, 110, 115]), .slice a1 1 p1] ⟨(ByteArray.mk #[67, 111, 110, 115]), [listT]⟩) := fun wz hz => (ctl_second hl hS.c3).below hz
  clear hS hl hmk
  go_enter Tryz.func43, Tryz.ntmps43
  go_wp2_with (first | (go_at_call 83; refine (gathered14 _ P tb r a0 a1 p0 p1 HS1.out).mono ?_; rintro e w2 ⟨⟨v2, m, b0, b1, rfl, hg2, hm2, hn2, hk2⟩, bl2⟩; obtain ⟨fb, cap, rfl, hfb, hfc⟩ := own_cells hg2.own (by omega); have HFC := hid hfc; have HM2 := hid hm2; have HN2 := hid hn2; have HK2 := hid hk2; have HB2 := hid (bl_tr HB1.out bl2); have Y2 := hid (Y1.out.stays bl2); have HTM2 := hid (HS1.out.m.stays bl2); clear hfc hg2 hm2 hn2 hk2 bl2) | (go_at_call 84; refine (inOrder14 w2 fb 0 cap _ _ _ _ _ _ (fun wz hz => ⟨(hz.cell (p := ⟨fb, 0, none⟩) hfb).trans (HFC.out 0 _ rfl), (hz.cell (p := ⟨fb, 1, none⟩) hfb).trans (HFC.out 1 _ rfl), (hz.cell (p := ⟨fb, 2, none⟩) hfb).trans (HFC.out 2 _ rfl), (hz.cell (p := ⟨fb, 3, none⟩) hfb).trans (HFC.out 3 _ rfl), (hz.cell (p := ⟨fb, 4, none⟩) hfb).trans (HFC.out 4 _ rfl), (hz.cell (p := ⟨fb, 5, none⟩) hfb).trans (HFC.out 5 _ rfl)⟩)).mono ?_; rintro e w3 ⟨rfl, hH3, hg3, bl3⟩; have HH3 := hid hH3; have HZ3 := hid hg3; have HL3 := hid bl3; have HB3 := hid (bl_tr HB2.out bl3); clear hH3 hg3 bl3) | (go_at_call 85; refine (compact_row w2.heap.size 3 3 w2.heap.size [bC, bN, bO] w3 rfl (by omega) (by omega) HH3.out HZ3.out (Nat.le_refl _) (by decide +kernel)).mono ?_; rintro e w4 ⟨rfl, hH4, hg4, bl4⟩; have HH4 := hid hH4; have HZ4 := hid hg4; have HL4 := hid (HL3.out.trans bl4); have HB4 := hid (HB2.out.trans (HL4.out.mono HB2.out.size)); clear hH4 hg4 bl4))
  have hml : m < w2.heap.size := HM2.out.lt
  have hnl : b0 < w2.heap.size := HN2.out.lt
  have hkl : b1 < w2.heap.size := HK2.out.lt
  have htl : tb < w2.heap.size := HTM2.out.lt
  have R2 : Hid (Rec14 w P tb r fb 0 m b0 b1 w2.heap.size a0 a1 p0 p1 w4) := ⟨(HL4.out.cell (p := ⟨fb, 0, none⟩) hfb).trans (HFC.out 0 _ rfl), (HL4.out.cell (p := ⟨fb, 1, none⟩) hfb).trans (HFC.out 1 _ rfl), (HL4.out.cell (p := ⟨fb, 2, none⟩) hfb).trans (HFC.out 2 _ rfl), (HL4.out.cell (p := ⟨fb, 3, none⟩) hfb).trans (HFC.out 3 _ rfl), (HL4.out.cell (p := ⟨fb, 4, none⟩) hfb).trans (HFC.out 4 _ rfl), (HL4.out.cell (p := ⟨fb, 5, none⟩) hfb).trans (HFC.out 5 _ rfl), HM2.out.stays HL4.out, HTM2.out.stays HL4.out, HN2.out.stays HL4.out, HK2.out.stays HL4.out, HH4.out, ⟨hfb, hml, htl, hnl, hkl⟩⟩
  have R5 := hid (R2.out.on (bl_alloc (Below.refl _ _) (.cells M 28)) HZ4.out)
  have K5 : Hid (Row12 (w4.alloc (.cells M 28)) w4.heap.size) := ⟨M.toList, by rw [Array.length_toList]; exact hM, ⟨by rw [heap_alloc_at]⟩⟩
  have Y5 := hid ((Y2.out.stays HL4.out).stays (bl_alloc (Below.refl _ _) (.cells M 28)))
  have B5 := hid (bl_alloc HB4.out (.cells M 28))
  have hlk : w2.heap.size < w4.heap.size := HZ4.out
  have hwk : w.heap.size < w2.heap.size := Y2.out.lt
  clear R2 HFC HM2 HN2 HK2 HTM2 HH4 HZ4 HL4 HB4 HB3 HL3 HH3 HZ3 HB2 Y2 Y1 HB1 HS1 hml hnl hkl htl hfb hmk2
  generalize (w4.alloc (.cells M 28)) = W5 at R5 K5 Y5 B5 ⊢
  generalize w4.heap.size = kb at K5 hlk ⊢
  generalize w2.heap.size = lb at R5 hlk hwk ⊢
  clear hM w4 w3 w2
  refine wp_loop_rounds 4 ?_
  rw [rounds_succ]
  have f0 := R5.out.f0
  have f1 := R5.out.f1
  simp only [Nat.zero_add] at f0 f1
  have D5 : Hid (Below W5.heap.size W5 (W5.alloc (.cells #[.string ⟨bO.toArray⟩, .func (.func 127) #[] #[.pointer (some ⟨m, 0, none⟩)]] 169))) := bl_alloc (Below.refl _ _) _
  have hlb5 : lb < W5.heap.size := by obtain ⟨cur, -, h⟩ := K5.out; have := h.lt; omega
  have R5a := hid (R5.out.on D5.out hlb5)
  have K5a := hid (K5.out.stays D5.out)
  have Y5a := hid (Y5.out.stays D5.out)
  have B5a := hid (bl_tr B5.out D5.out)
  have X5a : Hid (Arr (W5.alloc (.cells #[.string ⟨bO.toArray⟩, .func (.func 127) #[] #[.pointer (some ⟨m, 0, none⟩)]] 169)) W5.heap.size 169 [.string ⟨bO.toArray⟩, .func (.func 127) #[] #[.pointer (some ⟨m, 0, none⟩)]]) := ⟨heap_alloc_at _ _⟩
  have HQ5 := hid (made1_14 (W5.alloc (.cells #[.string ⟨bO.toArray⟩, .func (.func 127) #[] #[.pointer (some ⟨m, 0, none⟩)]] 169)) m tb r R5a.out.fm R5a.out.ftm (HL.out.below B5a.out))
  clear R5 K5 Y5 B5
  have hla5 : lb < (W5.alloc (.cells #[.string ⟨bO.toArray⟩, .func (.func 127) #[] #[.pointer (some ⟨m, 0, none⟩)]] 169)).heap.size := by rw [size_alloc]; omega
  go_wp2_with (first | (go_at_call 127; refine HQ5.out.mono ?_; rintro e w5 ⟨⟨k5, n5, e5', l5', c5', e5, l5, c5, rfl⟩, b5⟩; have hb := bl_alloc b5 (.cells #[.int .i64 k5, .int .i64 n5, .slice e5' l5' c5', .slice e5 l5 c5] 28); have R5b := hid (R5a.out.on hb hla5); have K5b := hid (K5a.out.stays hb); have Y5b := hid (Y5a.out.stays hb); have B5b := hid (bl_tr B5a.out hb); have X5b := hid (X5a.out.stays hb); have x0 := X5b.out.cell; have T5b : Hid (Arr (w5.alloc (.cells #[.int .i64 k5, .int .i64 n5, .slice e5' l5' c5', .slice e5 l5 c5] 28)) w5.heap.size 28 [.int .i64 k5, .int .i64 n5, .slice e5' l5' c5', .slice e5 l5 c5]) := ⟨heap_alloc_at _ _⟩; have t0 := T5b.out.cell; obtain ⟨u0, hu0⟩ := K5b.out.cell 8 (by omega); obtain ⟨u1, hu1⟩ := K5b.out.cell 9 (by omega); obtain ⟨u2, hu2⟩ := K5b.out.cell 10 (by omega); obtain ⟨u3, hu3⟩ := K5b.out.cell 11 (by omega); have fz := K5b.out.frozen; clear b5 hb f0 f1) | (go_at_call 86; refine (search_bO _ lb R5b.out.fl).mono ?_; rintro e w' ⟨rfl, hw⟩; rw [hw]; clear hw w'))
  have hst5 : ∀ (W : World) q u, Below kb W (W.setCell ⟨kb, q, none⟩ u) := fun W q u => (Below.refl kb W).setCell (p := ⟨kb, q, none⟩) (Nat.le_refl _) u
  have hsw5 : ∀ (W : World) q u, Below w.heap.size w W → Below w.heap.size w (W.setCell ⟨kb, q, none⟩ u) := fun W q u h => bl_set _ _ h (by show _ ≤ kb; omega)
  have hoy5 : ∀ (W : World) q u, Arr W w.heap.size 28 [.int .i64 0, .int .i64 0, .slice none 0 0, .slice none 0 0] → Arr (W.setCell ⟨kb, q, none⟩ u) w.heap.size 28 [.int .i64 0, .int .i64 0, .slice none 0 0, .slice none 0 0] := fun W q u h => h.other (p := ⟨kb, q, none⟩) (by show w.heap.size ≠ kb; omega) u
  have R6 := hid ((((R5b.out.on (hst5 _ 8 (.int .i64 k5)) hlk).on (hst5 _ 9 (.int .i64 n5)) hlk).on (hst5 _ 10 (.slice e5' l5' c5')) hlk).on (hst5 _ 11 (.slice e5 l5 c5)) hlk)
  have K6 := hid ((((K5b.out.set 8 (.int .i64 k5)).set 9 (.int .i64 n5)).set 10 (.slice e5' l5' c5')).set 11 (.slice e5 l5 c5))
  have Y6 := hid (hoy5 _ 11 (.slice e5 l5 c5) (hoy5 _ 10 (.slice e5' l5' c5') (hoy5 _ 9 (.int .i64 n5) (hoy5 _ 8 (.int .i64 k5) Y5b.out))))
  have B6 := hid (hsw5 _ 11 (.slice e5 l5 c5) (hsw5 _ 10 (.slice e5' l5' c5') (hsw5 _ 9 (.int .i64 n5) (hsw5 _ 8 (.int .i64 k5) B5b.out))))
  clear R5a K5a Y5a B5a X5a HQ5 R5b K5b Y5b B5b X5b x0 T5b t0 hu0 hu1 hu2 hu3 fz D5 hla5 hlb5
  generalize (((((w5.alloc (.cells #[.int .i64 k5, .int .i64 n5, .slice e5' l5' c5', .slice e5 l5 c5] 28))).setCell ⟨kb, 8, none⟩ (.int .i64 k5)).setCell ⟨kb, 9, none⟩ (.int .i64 n5)).setCell ⟨kb, 10, none⟩ (.slice e5' l5' c5')).setCell ⟨kb, 11, none⟩ (.slice e5 l5 c5) = W6 at R6 K6 Y6 B6 ⊢
  rw [rounds_succ]
  have f0 := R6.out.f2
  have f1 := R6.out.f3
  simp only [Nat.zero_add] at f0 f1
  have D6 : Hid (Below W6.heap.size W6 (W6.alloc (.cells #[.string ⟨bN.toArray⟩, .func (.func 130) #[] #[.pointer (some ⟨m, 0, none⟩), .pointer (some ⟨b0, 0, none⟩)]] 169))) := bl_alloc (Below.refl _ _) _
  have hlb6 : lb < W6.heap.size := by obtain ⟨cur, -, h⟩ := K6.out; have := h.lt; omega
  have R6a := hid (R6.out.on D6.out hlb6)
  have K6a := hid (K6.out.stays D6.out)
  have Y6a := hid (Y6.out.stays D6.out)
  have B6a := hid (bl_tr B6.out D6.out)
  have X6a : Hid (Arr (W6.alloc (.cells #[.string ⟨bN.toArray⟩, .func (.func 130) #[] #[.pointer (some ⟨m, 0, none⟩), .pointer (some ⟨b0, 0, none⟩)]] 169)) W6.heap.size 169 [.string ⟨bN.toArray⟩, .func (.func 130) #[] #[.pointer (some ⟨m, 0, none⟩), .pointer (some ⟨b0, 0, none⟩)]]) := ⟨heap_alloc_at _ _⟩
  have HQ6 := hid (made2_14 (W6.alloc (.cells #[.string ⟨bN.toArray⟩, .func (.func 130) #[] #[.pointer (some ⟨m, 0, none⟩), .pointer (some ⟨b0, 0, none⟩)]] 169)) m tb r b0 1 ⟨(ByteArray.mk #[78, 105, 108]), []⟩ a0 p0 okC0 (by decide) R6a.out.fm R6a.out.ftm R6a.out.fn ⟨_, rfl, .inr ⟨rfl, _, _, rfl⟩⟩)
  clear R6 K6 Y6 B6
  have hla6 : lb < (W6.alloc (.cells #[.string ⟨bN.toArray⟩, .func (.func 130) #[] #[.pointer (some ⟨m, 0, none⟩), .pointer (some ⟨b0, 0, none⟩)]] 169)).heap.size := by rw [size_alloc]; omega
  go_wp2_with (first | (go_at_call 130; refine HQ6.out.mono ?_; rintro e w6 ⟨⟨k6, n6, e6', l6', c6', e6, l6, c6, rfl⟩, b6⟩; have hb := bl_alloc b6 (.cells #[.int .i64 k6, .int .i64 n6, .slice e6' l6' c6', .slice e6 l6 c6] 28); have R6b := hid (R6a.out.on hb hla6); have K6b := hid (K6a.out.stays hb); have Y6b := hid (Y6a.out.stays hb); have B6b := hid (bl_tr B6a.out hb); have X6b := hid (X6a.out.stays hb); have x0 := X6b.out.cell; have T6b : Hid (Arr (w6.alloc (.cells #[.int .i64 k6, .int .i64 n6, .slice e6' l6' c6', .slice e6 l6 c6] 28)) w6.heap.size 28 [.int .i64 k6, .int .i64 n6, .slice e6' l6' c6', .slice e6 l6 c6]) := ⟨heap_alloc_at _ _⟩; have t0 := T6b.out.cell; obtain ⟨u0, hu0⟩ := K6b.out.cell 4 (by omega); obtain ⟨u1, hu1⟩ := K6b.out.cell 5 (by omega); obtain ⟨u2, hu2⟩ := K6b.out.cell 6 (by omega); obtain ⟨u3, hu3⟩ := K6b.out.cell 7 (by omega); have fz := K6b.out.frozen; clear b6 hb f0 f1) | (go_at_call 86; refine (search_bN _ lb R6b.out.fl).mono ?_; rintro e w' ⟨rfl, hw⟩; rw [hw]; clear hw w'))
  have hst6 : ∀ (W : World) q u, Below kb W (W.setCell ⟨kb, q, none⟩ u) := fun W q u => (Below.refl kb W).setCell (p := ⟨kb, q, none⟩) (Nat.le_refl _) u
  have hsw6 : ∀ (W : World) q u, Below w.heap.size w W → Below w.heap.size w (W.setCell ⟨kb, q, none⟩ u) := fun W q u h => bl_set _ _ h (by show _ ≤ kb; omega)
  have hoy6 : ∀ (W : World) q u, Arr W w.heap.size 28 [.int .i64 0, .int .i64 0, .slice none 0 0, .slice none 0 0] → Arr (W.setCell ⟨kb, q, none⟩ u) w.heap.size 28 [.int .i64 0, .int .i64 0, .slice none 0 0, .slice none 0 0] := fun W q u h => h.other (p := ⟨kb, q, none⟩) (by show w.heap.size ≠ kb; omega) u
  have R7 := hid ((((R6b.out.on (hst6 _ 4 (.int .i64 k6)) hlk).on (hst6 _ 5 (.int .i64 n6)) hlk).on (hst6 _ 6 (.slice e6' l6' c6')) hlk).on (hst6 _ 7 (.slice e6 l6 c6)) hlk)
  have K7 := hid ((((K6b.out.set 4 (.int .i64 k6)).set 5 (.int .i64 n6)).set 6 (.slice e6' l6' c6')).set 7 (.slice e6 l6 c6))
  have Y7 := hid (hoy6 _ 7 (.slice e6 l6 c6) (hoy6 _ 6 (.slice e6' l6' c6') (hoy6 _ 5 (.int .i64 n6) (hoy6 _ 4 (.int .i64 k6) Y6b.out))))
  have B7 := hid (hsw6 _ 7 (.slice e6 l6 c6) (hsw6 _ 6 (.slice e6' l6' c6') (hsw6 _ 5 (.int .i64 n6) (hsw6 _ 4 (.int .i64 k6) B6b.out))))
  clear R6a K6a Y6a B6a X6a HQ6 R6b K6b Y6b B6b X6b x0 T6b t0 hu0 hu1 hu2 hu3 fz D6 hla6 hlb6
  generalize (((((w6.alloc (.cells #[.int .i64 k6, .int .i64 n6, .slice e6' l6' c6', .slice e6 l6 c6] 28))).setCell ⟨kb, 4, none⟩ (.int .i64 k6)).setCell ⟨kb, 5, none⟩ (.int .i64 n6)).setCell ⟨kb, 6, none⟩ (.slice e6' l6' c6')).setCell ⟨kb, 7, none⟩ (.slice e6 l6 c6) = W7 at R7 K7 Y7 B7 ⊢
  rw [rounds_succ]
  have f0 := R7.out.f4
  have f1 := R7.out.f5
  simp only [Nat.zero_add] at f0 f1
  have D7 : Hid (Below W7.heap.size W7 (W7.alloc (.cells #[.string ⟨bC.toArray⟩, .func (.func 130) #[] #[.pointer (some ⟨m, 0, none⟩), .pointer (some ⟨b1, 0, none⟩)]] 169))) := bl_alloc (Below.refl _ _) _
  have hlb7 : lb < W7.heap.size := by obtain ⟨cur, -, h⟩ := K7.out; have := h.lt; omega
  have R7a := hid (R7.out.on D7.out hlb7)
  have K7a := hid (K7.out.stays D7.out)
  have Y7a := hid (Y7.out.stays D7.out)
  have B7a := hid (bl_tr B7.out D7.out)
  have X7a : Hid (Arr (W7.alloc (.cells #[.string ⟨bC.toArray⟩, .func (.func 130) #[] #[.pointer (some ⟨m, 0, none⟩), .pointer (some ⟨b1, 0, none⟩)]] 169)) W7.heap.size 169 [.string ⟨bC.toArray⟩, .func (.func 130) #[] #[.pointer (some ⟨m, 0, none⟩), .pointer (some ⟨b1, 0, none⟩)]]) := ⟨heap_alloc_at _ _⟩
  have HQ7 := hid (made2_14 (W7.alloc (.cells #[.string ⟨bC.toArray⟩, .func (.func 130) #[] #[.pointer (some ⟨m, 0, none⟩), .pointer (some ⟨b1, 0, none⟩)]] 169)) m tb r b1 2 ⟨(ByteArray.mk #[67, 111, 110, 115]), [listT]⟩ a1 p1 okC1 (by decide) R7a.out.fm R7a.out.ftm R7a.out.fk (HCK.out _ B7a.out))
  clear R7 K7 Y7 B7
  have hla7 : lb < (W7.alloc (.cells #[.string ⟨bC.toArray⟩, .func (.func 130) #[] #[.pointer (some ⟨m, 0, none⟩), .pointer (some ⟨b1, 0, none⟩)]] 169)).heap.size := by rw [size_alloc]; omega
  go_wp2_with (first | (go_at_call 130; refine HQ7.out.mono ?_; rintro e w7 ⟨⟨k7, n7, e7', l7', c7', e7, l7, c7, rfl⟩, b7⟩; have hb := bl_alloc b7 (.cells #[.int .i64 k7, .int .i64 n7, .slice e7' l7' c7', .slice e7 l7 c7] 28); have R7b := hid (R7a.out.on hb hla7); have K7b := hid (K7a.out.stays hb); have Y7b := hid (Y7a.out.stays hb); have B7b := hid (bl_tr B7a.out hb); have X7b := hid (X7a.out.stays hb); have x0 := X7b.out.cell; have T7b : Hid (Arr (w7.alloc (.cells #[.int .i64 k7, .int .i64 n7, .slice e7' l7' c7', .slice e7 l7 c7] 28)) w7.heap.size 28 [.int .i64 k7, .int .i64 n7, .slice e7' l7' c7', .slice e7 l7 c7]) := ⟨heap_alloc_at _ _⟩; have t0 := T7b.out.cell; obtain ⟨u0, hu0⟩ := K7b.out.cell 0 (by omega); obtain ⟨u1, hu1⟩ := K7b.out.cell 1 (by omega); obtain ⟨u2, hu2⟩ := K7b.out.cell 2 (by omega); obtain ⟨u3, hu3⟩ := K7b.out.cell 3 (by omega); have fz := K7b.out.frozen; clear b7 hb f0 f1) | (go_at_call 86; refine (search_bC _ lb R7b.out.fl).mono ?_; rintro e w' ⟨rfl, hw⟩; rw [hw]; clear hw w'))
  have hst7 : ∀ (W : World) q u, Below kb W (W.setCell ⟨kb, q, none⟩ u) := fun W q u => (Below.refl kb W).setCell (p := ⟨kb, q, none⟩) (Nat.le_refl _) u
  have hsw7 : ∀ (W : World) q u, Below w.heap.size w W → Below w.heap.size w (W.setCell ⟨kb, q, none⟩ u) := fun W q u h => bl_set _ _ h (by show _ ≤ kb; omega)
  have hoy7 : ∀ (W : World) q u, Arr W w.heap.size 28 [.int .i64 0, .int .i64 0, .slice none 0 0, .slice none 0 0] → Arr (W.setCell ⟨kb, q, none⟩ u) w.heap.size 28 [.int .i64 0, .int .i64 0, .slice none 0 0, .slice none 0 0] := fun W q u h => h.other (p := ⟨kb, q, none⟩) (by show w.heap.size ≠ kb; omega) u
  have R8 := hid ((((R7b.out.on (hst7 _ 0 (.int .i64 k7)) hlk).on (hst7 _ 1 (.int .i64 n7)) hlk).on (hst7 _ 2 (.slice e7' l7' c7')) hlk).on (hst7 _ 3 (.slice e7 l7 c7)) hlk)
  have K8 := hid ((((K7b.out.set 0 (.int .i64 k7)).set 1 (.int .i64 n7)).set 2 (.slice e7' l7' c7')).set 3 (.slice e7 l7 c7))
  have Y8 := hid (hoy7 _ 3 (.slice e7 l7 c7) (hoy7 _ 2 (.slice e7' l7' c7') (hoy7 _ 1 (.int .i64 n7) (hoy7 _ 0 (.int .i64 k7) Y7b.out))))
  have B8 := hid (hsw7 _ 3 (.slice e7 l7 c7) (hsw7 _ 2 (.slice e7' l7' c7') (hsw7 _ 1 (.int .i64 n7) (hsw7 _ 0 (.int .i64 k7) B7b.out))))
  clear R7a K7a Y7a B7a X7a HQ7 R7b K7b Y7b B7b X7b x0 T7b t0 hu0 hu1 hu2 hu3 fz D7 hla7 hlb7
  generalize (((((w7.alloc (.cells #[.int .i64 k7, .int .i64 n7, .slice e7' l7' c7', .slice e7 l7 c7] 28))).setCell ⟨kb, 0, none⟩ (.int .i64 k7)).setCell ⟨kb, 1, none⟩ (.int .i64 n7)).setCell ⟨kb, 2, none⟩ (.slice e7' l7' c7')).setCell ⟨kb, 3, none⟩ (.slice e7 l7 c7) = W8 at R8 K8 Y8 B8 ⊢
  rw [rounds_succ]
  have y0 := Y8.out.cell
  have y1 := Y8.out.frozen
  go_wp2
  refine bodyPost_ret (v := .tuple #[.agg #[.int .i64 7, .int .i64 0, .slice (some ⟨lb, 0, none⟩) 3 3, .slice (some ⟨kb, 0, none⟩) 3 3], .int .i64 0]) (by rw [results_cell2t (fn := Tryz.f43) (p := 2) (a := 3) (ty := 28) (by kernel_rfl)]; simp [go_sem, y0, y1]) rfl ?_
  have hsz : ∀ (W : World) q u, (W.setCell ⟨w.heap.size, q, none⟩ u).heap.size = W.heap.size := fun W q u => by simp [World.setCell]
  have hce : ∀ (W : World) q u o v, W.cell? ⟨lb, o, none⟩ = some v → (W.setCell ⟨w.heap.size, q, none⟩ u).cell? ⟨lb, o, none⟩ = some v := fun W q u o v h => (World.cell?_of_block (w := W) (Below.heap_setCell _ _ _ _ (by show lb ≠ w.heap.size; omega))).trans h
  have hl8 : lb < W8.heap.size := by obtain ⟨cur, -, h⟩ := K8.out; have := h.lt; omega
  have q0 : W8.cell? ⟨lb, 0, none⟩ = some (.string ⟨bC.toArray⟩) := (R8.out.fl 0 (by decide)).1
  have q2 : W8.cell? ⟨lb, 2, none⟩ = some (.string ⟨bO.toArray⟩) := (R8.out.fl 2 (by decide)).1
  exact ⟨⟨lb, kb, rfl, hce _ _ _ _ _ (hce _ _ _ _ _ (hce _ _ _ _ _ (hce _ _ _ _ _ q0))), hce _ _ _ _ _ (hce _ _ _ _ _ (hce _ _ _ _ _ (hce _ _ _ _ _ q2))), by rw [hsz, hsz, hsz, hsz]; exact hl8⟩, HSS.out _ _ _ (HSS.out _ _ _ (HSS.out _ _ _ (HSS.out _ _ _ B8.out)))⟩
end Go.Proofs.YtigliglmejkakaaGreat
