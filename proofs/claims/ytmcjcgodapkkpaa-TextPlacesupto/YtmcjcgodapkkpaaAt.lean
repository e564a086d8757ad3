/- What At comes to: the place with a line and a column, or that there is none. -/
import Derived.Test.YtmcjcgodapkkpaaLineOf
namespace Go.Proofs.Ytmcjcgodapkkpaa
open Go.RowKit Go.Shelf
set_option linter.unusedVariables false
attribute [local go_sem] Oper.semAt_some

/-- The place and the error number of a line and a column. -/
def Tx.atR (s : ByteArray) (line col : Int) : Int × Int :=
  if line < 0 ∨ col < 0 then (0, 1)
  else match (Tx.lines s)[line.toNat]? with
    | some x => if col ≤ (x.2 : Int) - (x.1 : Int) then ((x.1 : Int) + col, 0) else (0, 1)
    | none => (0, 1)

theorem Boxed.putE {V : World} {B D : Nat} {t : TypeId} {v : Value} (h : Boxed V B t v) (hK : V.heap[D]? = some (.deferred (some []))) : Boxed (V.putObj D (.deferred none)) B t v :=
  h.kept (grownBy_putObj' V D (.deferred none)) (fun e => by cases e; rw [show V.heap[B]? = _ from h] at hK; cases hK)

theorem at_end0 {n B1 B2 : Nat} {V : World} {i1 i2 : Int} {t0 t1 t2 t3 t4 t5 t8 t9 t10 t11 t12 t13 t14 t15 t16 t17 t18 t19 t20 t21 t22 t23 t24 t25 t26 t27 t28 t29 t30 t31 : Value} {R : Ending → World → Prop}
    (b1 : Boxed V B1 3 (.int .i64 i1)) (b2 : Boxed V B2 32 (.int .i64 i2)) (hR : R (.returned (.tuple #[.int .i64 i1, .int .i64 i2])) V) :
    bodyPostM Fence.wide n Try.prog Try.f20 R .ret { tmps := #[t0, t1, t2, t3, t4, t5, .pointer (some ⟨B1, 0, none⟩), .pointer (some ⟨B2, 0, none⟩), t8, t9, t10, t11, t12, t13, t14, t15, t16, t17, t18, t19, t20, t21, t22, t23, t24, t25, t26, t27, t28, t29, t30, t31], defers := [] } V := by
  have c1 := b1.cell
  have c2 := b2.cell
  refine ⟨.tuple #[.int .i64 i1, .int .i64 i2], ?_, hR⟩
  simp [results, Try.f20, go_sem, c1, c2]

theorem at_end {n D B1 B2 : Nat} {V : World} {i1 i2 : Int} {t0 t1 t2 t3 t4 t5 t8 t9 t10 t11 t12 t13 t14 t15 t16 t17 t18 t19 t20 t21 t22 t23 t24 t25 t26 t27 t28 t29 t30 t31 : Value} {R : Ending → World → Prop}
    (hK : V.heap[D]? = some (.deferred (some []))) (b1 : Boxed V B1 3 (.int .i64 i1)) (b2 : Boxed V B2 32 (.int .i64 i2))
    (hR : R (.returned (.tuple #[.int .i64 i1, .int .i64 i2])) (V.putObj D (.deferred none))) :
    bodyPostM Fence.wide n Try.prog Try.f20 R .ret { tmps := #[t0, t1, t2, t3, t4, t5, .pointer (some ⟨B1, 0, none⟩), .pointer (some ⟨B2, 0, none⟩), t8, t9, t10, t11, t12, t13, t14, t15, t16, t17, t18, t19, t20, t21, t22, t23, t24, t25, t26, t27, t28, t29, t30, t31], defers := [{ target := .collected D, args := #[] }] } V := by
  have c1 := (Boxed.putE b1 hK).cell
  have c2 := (Boxed.putE b2 hK).cell
  refine ⟨by simp, .inl ⟨_, _, rfl, run_takeDeferred hK, ?_⟩⟩
  refine ⟨.tuple #[.int .i64 i1, .int .i64 i2], ?_, hR⟩
  simp [results, Try.f20, go_sem, c1, c2]

set_option maxRecDepth 100000 in
set_option maxHeartbeats 2000000 in
theorem at_neg (n : Nat) (s : ByteArray) (line col : Int) (h : line < 0 ∨ col < 0) (w : World) :
    CallsIn Fence.wide n Try.prog 20 #[.string s, .int .i64 line, .int .i64 col] w fun e W' => e = .returned (.tuple #[.int .i64 0, .int .i64 1]) ∧ Below w.heap.size w W' := by
  refine callsIn_of_wp_marks Try.func20 rfl trivial ?_ rfl
  simp only [Try.ntmps20, List.size_toArray, List.length_cons, List.length_nil, Nat.reduceAdd, Nat.reduceSub, Array.replicate_succ, Array.replicate_zero, List.push_toArray, List.append_toArray, List.nil_append, List.cons_append]
  have b1 := (Boxed.new ((w.alloc (.cells #[.int .i64 line] 3)).alloc (.cells #[.int .i64 col] 3)) 3 (.int .i64 0)).alloc (.cells #[.int .i64 1] 32)
  have b2 := Boxed.new (((w.alloc (.cells #[.int .i64 line] 3)).alloc (.cells #[.int .i64 col] 3)).alloc (.cells #[.int .i64 0] 3)) 32 (.int .i64 1)
  have hB0 : Below w.heap.size w ((((w.alloc (.cells #[.int .i64 line] 3)).alloc (.cells #[.int .i64 col] 3)).alloc (.cells #[.int .i64 0] 3)).alloc (.cells #[.int .i64 1] 32)) :=
    ((((Below.refl _ w).alloc (Nat.le_refl _) _).alloc (by simp) _).alloc (by simp; omega) _).alloc (by simp; omega) _
  simp only [World.size_alloc] at b1 b2
  have H : Hid (_ ∧ _ ∧ _) := ⟨b1, b2, hB0⟩
  clear b1 b2 hB0
  by_cases h0 : line < 0
  · clear h
    gi_wp2
    exact at_end0 H.out.1 H.out.2.1 ⟨rfl, H.out.2.2⟩
  · have h2 : col < 0 := by omega
    have d0 : decide (line < 0) = false := by simp; omega
    clear h
    gi_wp2
    exact at_end0 H.out.1 H.out.2.1 ⟨rfl, H.out.2.2⟩

theorem Tx.atR_hit {s : ByteArray} {line col : Int} (h0 : 0 ≤ line) (h2 : 0 ≤ col) {q r : List (Nat × Nat)} {x : Nat × Nat} (e : Tx.lines s = q ++ x :: r) (hq : (q.length : Int) = line) :
    Tx.atR s line col = if col ≤ (x.2 : Int) - (x.1 : Int) then ((x.1 : Int) + col, 0) else (0, 1) := by
  unfold Tx.atR
  have e2 : (q ++ x :: r)[line.toNat]? = some x := by
    rw [show line.toNat = q.length from by omega, List.getElem?_append_right (Nat.le_refl _)]; simp
  rw [if_neg (by omega), e, e2]

theorem Tx.atR_out {s : ByteArray} {line col : Int} (h : ((Tx.lines s).length : Int) ≤ line) : Tx.atR s line col = (0, 1) := by
  unfold Tx.atR
  rw [List.getElem?_eq_none (by omega)]
  split <;> rfl

/-- How a round has left: by a break, the column being too great, or by a return. -/
def AtLeft {n : Nat} (line col : Int) (c : Code) (pre : List (Bd n)) (i1 i2 : Int) : Prop :=
  ∃ q x, pre = q ++ [x] ∧ ((q.length : Nat) : Int) = line ∧ ((c = .exit 0 ∧ (x.1.2 : Int) - (x.1.1 : Int) < col) ∨ (c = .ret ∧ col ≤ (x.1.2 : Int) - (x.1.1 : Int) ∧ i1 = (x.1.1 : Int) + col ∧ i2 = 0))

set_option maxRecDepth 100000 in
set_option maxHeartbeats 2000000 in
theorem at_in (n : Nat) (hn : 3 ≤ n) (s : ByteArray) (line col : Int) (hs : s.size ≤ 2097152) (h0 : 0 ≤ line) (h2 : 0 ≤ col) (hl : line ≤ 9223372036854775807) (hc : col ≤ 9223372036854775807) (w : World) :
    CallsIn Fence.wide n Try.prog 20 #[.string s, .int .i64 line, .int .i64 col] w fun e W' => e = .returned (.tuple #[.int .i64 (Tx.atR s line col).1, .int .i64 (Tx.atR s line col).2]) ∧ Below w.heap.size w W' := by
  have h1 : 1 ≤ n := by omega
  have d0 : decide (line < 0) = false := by simp; omega
  have d2 : decide (col < 0) = false := by simp; omega
  have hll := Tx.lines_length s
  refine callsIn_of_wp_marks Try.func20 rfl trivial ?_ rfl
  simp only [Try.ntmps20, List.size_toArray, List.length_cons, List.length_nil, Nat.reduceAdd, Nat.reduceSub, Array.replicate_succ, Array.replicate_zero, List.push_toArray, List.append_toArray, List.nil_append, List.cons_append]
  gi_wp2_with (refine ⟨trivial, ?_⟩; gi_at_call 25; refine (bounds_in _ _ _).mono ?_; rintro e w' ⟨rfl, rfl⟩)
  have bL := ((((Boxed.new w 3 (.int .i64 line)).alloc (.cells #[.int .i64 col] 3)).alloc (.cells #[.int .i64 0] 3)).alloc (.cells #[.int .i64 0] 32)).alloc (.cells #[.string s] 9)
  have bC := (((Boxed.new (w.alloc (.cells #[.int .i64 line] 3)) 3 (.int .i64 col)).alloc (.cells #[.int .i64 0] 3)).alloc (.cells #[.int .i64 0] 32)).alloc (.cells #[.string s] 9)
  have bR := ((Boxed.new ((w.alloc (.cells #[.int .i64 line] 3)).alloc (.cells #[.int .i64 col] 3)) 3 (.int .i64 0)).alloc (.cells #[.int .i64 0] 32)).alloc (.cells #[.string s] 9)
  have bE := (Boxed.new (((w.alloc (.cells #[.int .i64 line] 3)).alloc (.cells #[.int .i64 col] 3)).alloc (.cells #[.int .i64 0] 3)) 32 (.int .i64 0)).alloc (.cells #[.string s] 9)
  have bS := Boxed.new ((((w.alloc (.cells #[.int .i64 line] 3)).alloc (.cells #[.int .i64 col] 3)).alloc (.cells #[.int .i64 0] 3)).alloc (.cells #[.int .i64 0] 32)) 9 (.string s)
  have hB0 : Below w.heap.size w (((((w.alloc (.cells #[.int .i64 line] 3)).alloc (.cells #[.int .i64 col] 3)).alloc (.cells #[.int .i64 0] 3)).alloc (.cells #[.int .i64 0] 32)).alloc (.cells #[.string s] 9)) :=
    (((((Below.refl _ w).alloc (Nat.le_refl _) _).alloc (by simp) _).alloc (by simp; omega) _).alloc (by simp; omega) _).alloc (by simp; omega) _
  have hsz : (((((w.alloc (.cells #[.int .i64 line] 3)).alloc (.cells #[.int .i64 col] 3)).alloc (.cells #[.int .i64 0] 3)).alloc (.cells #[.int .i64 0] 32)).alloc (.cells #[.string s] 9)).heap.size = w.heap.size + 5 := by simp
  simp only [World.size_alloc] at bC bR bE bS
  obtain ⟨W0, hW0⟩ : ∃ W0, ((((w.alloc (.cells #[.int .i64 line] 3)).alloc (.cells #[.int .i64 col] 3)).alloc (.cells #[.int .i64 0] 3)).alloc (.cells #[.int .i64 0] 32)).alloc (.cells #[.string s] 9) = W0 := ⟨_, rfl⟩
  rw [hW0] at bL bC bR bE bS hB0 hsz ⊢
  clear hW0
  refine wpIn_rangeFunc_ownH rfl h1 (gf := 27) (lb := #[.pointer (some ⟨w.heap.size + 1 + 1 + 1 + 1, 0, none⟩)]) rfl trivial (enters_of Try.func27 (by kernel_rfl) rfl)
    (bounds_stops (n - 1) (by omega) (w.heap.size + 1 + 1 + 1 + 1) s (by unfold maxLen; omega) W0 bS) KpBox.t (KpBox.b (w := W0)) (Below.refl _ _) (fun _ => rfl)
    (fun pre W => ((((Boxed W w.heap.size 3 (.int .i64 (line - (pre.length : Nat))) ∧ Boxed W (w.heap.size + 1) 3 (.int .i64 col)) ∧ Boxed W (w.heap.size + 1 + 1) 3 (.int .i64 0)) ∧ Boxed W (w.heap.size + 1 + 1 + 1) 32 (.int .i64 0)) ∧ ((pre.length : Nat) : Int) ≤ line) ∧ Below w.heap.size w W)
    (fun c pre W => (∃ i1 i2, ((Boxed W (w.heap.size + 1 + 1) 3 (.int .i64 i1) ∧ Boxed W (w.heap.size + 1 + 1 + 1) 32 (.int .i64 i2)) ∧ AtLeft line col c pre i1 i2)) ∧ Below w.heap.size w W)
    (OwnFrom.and (OwnFrom.and (OwnFrom.and (OwnFrom.and (OwnFrom.and (Own.from (boxed_own _ _ _) _) (Own.from (boxed_own _ _ _) _)) (Own.from (boxed_own _ _ _) _)) (Own.from (boxed_own _ _ _) _)) (ownFrom_pure _ _)) (ownFrom_below (Nat.le_refl _) (by omega)))
    (fun c => OwnFrom.and (Own.from (fun pre X Y row hs hg hr => by
      obtain ⟨i1, i2, ⟨g1, g2⟩, g3⟩ := hs
      exact ⟨i1, i2, ⟨boxed_own _ 3 (fun (_ : Unit) => Value.int .i64 i1) () X Y row g1 hg hr, boxed_own _ 32 (fun (_ : Unit) => Value.int .i64 i2) () X Y row g2 hg hr⟩, g3⟩) _) (ownFrom_below (Nat.le_refl _) (by omega)))
    ⟨⟨⟨⟨⟨by simpa using bL, bC⟩, bR⟩, bE⟩, by simpa using h0⟩, hB0⟩
    (fun x a' _ => a' = { tmps := #[.string s, .int .i64 line, .int .i64 col, undef, .pointer (some ⟨w.heap.size, 0, none⟩), .pointer (some ⟨w.heap.size + 1, 0, none⟩), .pointer (some ⟨w.heap.size + 1 + 1, 0, none⟩), .pointer (some ⟨w.heap.size + 1 + 1 + 1, 0, none⟩), .int .i64 (x.1.1 : Nat), .int .i64 (x.1.2 : Nat), .int .i64 line, .bool false, .bool false, .int .i64 col, .bool false, .bool false, .string s, .func (.func 27) #[] #[.pointer (some ⟨w.heap.size + 1 + 1 + 1 + 1, 0, none⟩)], .int .i64 (x.1.1 : Nat), .int .i64 (x.1.2 : Nat), undef, undef, undef, undef, undef, undef, undef, undef, undef, undef, undef, undef], defers := [] })
    (fun _ _ _ _ _ _ hs _ _ => hs)
    ?assign ?body ?done ?stop
  case assign =>
    rintro l pre x W K hi hK
    gi_wp2
    exact hK _ _ (KeepsFrom.refl _ _) (KpBox.refl _ _ _) hi rfl
  case body =>
    rintro l pre x a' W _ _ ⟨⟨⟨⟨⟨bL1, bC1⟩, bR1⟩, bE1⟩, hp⟩, hB1⟩ rfl hlt
    have cL := bL1.cell
    have fL := bL1.frozen
    have cC := bC1.cell
    have cR := bR1.cell
    have fR := bR1.frozen
    have cE := bE1.cell
    have fE := bE1.frozen
    have hx1 := x.2.1
    have hx2 := x.2.2
    by_cases g1 : 0 < line - (pre.length : Nat)
    · gi_wp2
      exact ⟨(KeepsOthers.setCell _ _ _).from _, KpBox.set (by omega) _, ⟨⟨⟨⟨by have := bL1.set (.int .i64 (line - (pre.length : Nat) - 1)); simpa [Int.sub_sub] using this, bC1.other (by omega) _⟩, bR1.other (by omega) _⟩, bE1.other (by omega) _⟩, by simp; omega⟩, hB1.setCell (p := ⟨w.heap.size, 0, none⟩) (by simp) _⟩
    · have g1' : ((pre.length : Nat) : Int) = line := by omega
      have G : Hid (((pre.length : Nat) : Int) = line) := g1'
      clear g1'
      by_cases g2 : (x.1.2 : Int) - (x.1.1 : Int) < col
      · gi_wp2
        exact ⟨KeepsFrom.refl _ _, ⟨_, _, ⟨bR1, bE1⟩, pre, _, rfl, G.out, .inl ⟨rfl, g2⟩⟩, hB1⟩
      · gi_wp2
        exact ⟨((KeepsOthers.setCell _ _ _).trans (KeepsOthers.setCell _ _ _)).from _, ⟨_, _, ⟨(bR1.set _).other (by omega) _, (bE1.other (by omega) _).set _⟩, pre, _, rfl, G.out, .inr ⟨rfl, by omega, rfl, rfl⟩⟩, (hB1.setCell (p := ⟨w.heap.size + 1 + 1, 0, none⟩) (by simp; omega) _).setCell (p := ⟨w.heap.size + 1 + 1 + 1, 0, none⟩) (by simp; omega) _⟩
  case done =>
    rintro D ys W hD hys ⟨⟨⟨⟨⟨bL1, bC1⟩, bR1⟩, bE1⟩, hp⟩, hB1⟩ hK
    have HR : Hid (Tx.atR s line col = (0, 1)) := Tx.atR_out (by rw [← hys]; simpa using hp)
    have cR := bR1.cell
    have fR := bR1.frozen
    have cE := bE1.cell
    have fE := bE1.frozen
    clear hys
    gi_wp2
    exact at_end (((KeepsOthers.setCell _ _ _).trans (KeepsOthers.setCell _ _ _)).same D _ hK rfl) ((bR1.set _).other (by omega) _) ((bE1.other (by omega) _).set _) ⟨by rw [HR.out], ((hB1.setCell (p := ⟨w.heap.size + 1 + 1, 0, none⟩) (by simp; omega) _).setCell (p := ⟨w.heap.size + 1 + 1 + 1, 0, none⟩) (by simp; omega) _).trans (belowK_b (w := w) (Nat.le_refl _) _ D _ _ (by omega) (((KeepsOthers.setCell _ _ _).trans (KeepsOthers.setCell _ _ _)).same D _ hK rfl) rfl rfl)⟩
  case stop =>
    rintro D c pre W hD hpre ⟨⟨i1, i2, ⟨bR1, bE1⟩, q, x, rfl, hq, hc⟩, hB1⟩ hK
    obtain ⟨r, hr⟩ := hpre
    have HR := Tx.atR_hit (s := s) (line := line) (col := col) h0 h2 (q := q.map (·.1)) (x := x.1) (r := r) (by rw [← hr]; simp) (by simpa using hq)
    have cR := bR1.cell
    have fR := bR1.frozen
    have cE := bE1.cell
    have fE := bE1.frozen
    rcases hc with ⟨rfl, hc⟩ | ⟨rfl, hc, rfl, rfl⟩
    · rw [if_neg (by omega)] at HR
      have HR' : Hid (Tx.atR s line col = (0, 1)) := HR
      clear HR hr hq
      gi_wp2
      exact at_end (((KeepsOthers.setCell _ _ _).trans (KeepsOthers.setCell _ _ _)).same D _ hK rfl) ((bR1.set _).other (by omega) _) ((bE1.other (by omega) _).set _) ⟨by rw [HR'.out], ((hB1.setCell (p := ⟨w.heap.size + 1 + 1, 0, none⟩) (by simp; omega) _).setCell (p := ⟨w.heap.size + 1 + 1 + 1, 0, none⟩) (by simp; omega) _).trans (belowK_b (w := w) (Nat.le_refl _) _ D _ _ (by omega) (((KeepsOthers.setCell _ _ _).trans (KeepsOthers.setCell _ _ _)).same D _ hK rfl) rfl rfl)⟩
    · rw [if_pos hc] at HR
      have HR' : Hid (Tx.atR s line col = ((x.1.1 : Int) + col, 0)) := HR
      clear HR hr hq
      gi_wp2
      exact at_end hK bR1 bE1 ⟨by rw [HR'.out], hB1.trans (belowK_b (w := w) (Nat.le_refl _) _ D _ _ (by omega) hK rfl rfl)⟩

theorem at_any (s : ByteArray) (line col : Int) (hs : s.size ≤ 2097152) (hl : line ≤ 9223372036854775807) (hc : col ≤ 9223372036854775807) (w : World) :
    Calls Try.prog 20 #[.string s, .int .i64 line, .int .i64 col] w fun e W' => e = .returned (.tuple #[.int .i64 (Tx.atR s line col).1, .int .i64 (Tx.atR s line col).2]) ∧ Below w.heap.size w W' := by
  refine (callsIn_wide (n := 3)).1 ?_
  by_cases h : line < 0 ∨ col < 0
  · have e : Tx.atR s line col = (0, 1) := by unfold Tx.atR; rw [if_pos h]
    rw [e]
    exact at_neg 3 s line col h w
  · exact at_in 3 (by omega) s line col hs (by omega) (by omega) hl hc w
end Go.Proofs.Ytmcjcgodapkkpaa
