/- What Lines comes to: a new slice of the lines. -/
import Derived.Maps.AppendAt
import Derived.Test.YtmcjcgodapkkpaaLineOf
namespace Go.Proofs.Ytmcjcgodapkkpaa
open Go.RowKit Go.Shelf
set_option linter.unusedVariables false
attribute [local go_sem] Oper.semAt_some

/-- An append whose run is known, as one step of a region that draws its order. -/
theorem step_run_in {F : Fence} {n : Nat} {P : Program} {ops : Array Oper} {o : Oper} {a : Act} {w : World} {K : Act → World → Prop} {Q : Exit → Act → World → Prop} {E : Prop}
    (hg : o.guard = none) (s x : Operand) (t : TypeId) (hop : o.op = Op.call { callee := Callee.builtin Builtin.append, args := #[s, x], argTypes := #[t, t] })
    (v xv v' : Value) (w' : World) (hs : a.eval s = v) (hx : a.eval x = xv) (hrun : (Builtin.append_ #[t, t] o.type #[v, xv]).run P w = .ok v' w') (hK : K (a.put o.dst v') w') :
    if Region.wanted o (yielded ops a.tmps) = true then Oper.wpIn F n P o a w K Q else E := by
  have hw : Region.wanted o (yielded ops a.tmps) = true := by simp [Region.wanted, hg]
  rw [if_pos hw]
  unfold Oper.wpIn
  refine ⟨?_, ?_⟩
  · simp [Oper.about, hop, resolve, Target.leads, Sem.run_pure]
  · rw [Oper.semAt_plain F _ _ (by rw [hop]; intro c hc'; cases hc')]
    simp [execOp, hop, resolve, invoke, builtin, hs, hx, hrun, Result.andThen]
    exact hK

theorem info9 : (Try.prog.info? 9).map (fun i => (i.zero, i.size, i.bytes)) = some (some (.string ⟨#[]⟩), 1, 16) := by kernel_rfl

/-- The lines as values. -/
def Tx.vals (s : ByteArray) (l : List (Nat × Nat)) : List Value := l.map fun x => .string (s.extract x.1 x.2)

theorem Tx.vals_snoc (s : ByteArray) (l : List (Nat × Nat)) (x : Nat × Nat) : Tx.vals s (l ++ [x]) = Tx.vals s l ++ [.string (s.extract x.1 x.2)] := by simp [Tx.vals]

theorem own_mono {w : World} {base base' : Nat} {e : TypeId} {size : Nat} {v : Value} {n : Nat} {xs : List Value} (h : w.ownsRow base e size v n xs) (hb : base' ≤ base) : w.ownsRow base' e size v n xs :=
  ⟨h.1, h.2.imp id fun ⟨g, cap, cur, h1, h2, h3⟩ => ⟨g, cap, cur, h1, Nat.le_trans hb h2, h3⟩⟩

theorem own_drew {w : World} {base : Nat} {e : TypeId} {size : Nat} {v : Value} {n : Nat} {xs : List Value} (h : w.ownsRow base e size v n xs) : w.drew.ownsRow base e size v n xs := h
theorem grow_drew {w w1 : World} {r : Option Nat} (h : w.drew.grownBy w1 r) : w.grownBy w1 r := ⟨h.1, h.2, h.3, h.4, h.5⟩

/-- What an append to a row of one's own leaves, behind the store into the variable's box. -/
theorem app_facts {W w1 : World} {base B k m : Nat} {v v' : Value} {xs ys : List Value} {tmp : Obj} (hv : Boxed W B 25 v) (hlt : B < base) (hb : base ≤ W.heap.size)
    (hrow : W.ownsRow base 9 1 v k xs) (hown' : w1.ownsRow base 9 1 v' m ys) (hgrow : (W.alloc tmp).grownBy w1 v.ownBlock) :
    Boxed w1 B 25 v ∧ Boxed (w1.setCell ⟨B, 0, none⟩ v') B 25 v' ∧ (w1.setCell ⟨B, 0, none⟩ v').ownsRow base 9 1 v' m ys ∧ KeepsOthers W (w1.setCell ⟨B, 0, none⟩ v') ∧ Below base W w1 := by
  have e0 : W.ownsRow 0 9 1 v k xs := own_mono hrow (Nat.zero_le _)
  have e1 : w1.ownsRow 0 9 1 v' m ys := own_mono hown' (Nat.zero_le _)
  obtain ⟨a1, a2, a3, a4, a5⟩ := hv.appended (by decide) e0 (Nat.zero_le _) (Nat.zero_le _) e1 hgrow
  refine ⟨a1, a2, hown'.kept (grownBy_setCell' w1 B v') (.inr (a1.not_row (by decide) hown').symm), a4, ?_⟩
  refine ((Below.refl base W).alloc hb tmp).grown hgrow (by simp; omega) fun j ej => ?_
  rcases hrow.2 with ⟨rfl, _⟩ | ⟨g, cap, cur, rfl, hg, _, _⟩
  · simp [Value.ownBlock] at ej
  · obtain rfl : g = j := by simpa [Value.ownBlock] using ej
    exact hg

set_option maxRecDepth 100000 in
set_option maxHeartbeats 2000000 in
theorem lines_in (n : Nat) (hn : 3 ≤ n) (s : ByteArray) (hs : s.size ≤ 2097152) (w : World) :
    CallsIn Fence.wide n Try.prog 11 #[.string s] w fun e W' => (∃ v, e = .returned v ∧ W'.ownsRow w.heap.size 9 1 v (Tx.lines s).length (Tx.vals s (Tx.lines s))) ∧ Below w.heap.size w W' := by
  have h1 : 1 ≤ n := by omega
  obtain ⟨i0, hi, hz0, hz1, hz2⟩ := info_parts info9
  have hll := Tx.lines_length s
  have hmx : Try.prog.follows .mixedOrders = true := by kernel_rfl
  refine callsIn_of_wp_marks Try.func11 rfl trivial ?_ rfl
  simp only [Try.ntmps11, List.size_toArray, List.length_cons, List.length_nil, Nat.reduceAdd, Nat.reduceSub, Array.replicate_succ, Array.replicate_zero, List.push_toArray, List.append_toArray, List.nil_append, List.cons_append]
  gi_wp2_with (refine ⟨trivial, ?_⟩; gi_at_call 25; refine (bounds_in _ _ _).mono ?_; rintro e w' ⟨rfl, rfl⟩)
  have bS := ((Boxed.new w 9 (.string s)).alloc (.cells #[.slice none 0 0] 25)).alloc (.cells #[.string s] 9)
  have bL := (Boxed.new (w.alloc (.cells #[.string s] 9)) 25 (.slice none 0 0)).alloc (.cells #[.string s] 9)
  have bI := Boxed.new ((w.alloc (.cells #[.string s] 9)).alloc (.cells #[.slice none 0 0] 25)) 9 (.string s)
  have hB0 : Below w.heap.size w (((w.alloc (.cells #[.string s] 9)).alloc (.cells #[.slice none 0 0] 25)).alloc (.cells #[.string s] 9)) :=
    (((Below.refl _ w).alloc (Nat.le_refl _) _).alloc (by simp) _).alloc (by simp; omega) _
  have hsz : (((w.alloc (.cells #[.string s] 9)).alloc (.cells #[.slice none 0 0] 25)).alloc (.cells #[.string s] 9)).heap.size = w.heap.size + 3 := by simp
  simp only [World.size_alloc] at bL bI
  obtain ⟨W0, hW0⟩ : ∃ W0, ((w.alloc (.cells #[.string s] 9)).alloc (.cells #[.slice none 0 0] 25)).alloc (.cells #[.string s] 9) = W0 := ⟨_, rfl⟩
  rw [hW0] at bS bL bI hB0 hsz ⊢
  clear hW0
  refine wpIn_rangeFunc_ownH rfl h1 (gf := 27) (lb := #[.pointer (some ⟨w.heap.size + 1 + 1, 0, none⟩)]) rfl trivial (enters_of Try.func27 (by kernel_rfl) rfl)
    (bounds_stops (n - 1) (by omega) (w.heap.size + 1 + 1) s (by unfold maxLen; omega) W0 bI) KpBox.t (KpBox.b (w := W0)) (Below.refl _ _) (fun _ => rfl)
    (fun pre W => ((∃ v, Boxed W (w.heap.size + 1) 25 v ∧ W.ownsRow (w.heap.size + 3) 9 1 v pre.length (Tx.vals s (pre.map (·.1))) ∧ True) ∧ Boxed W w.heap.size 9 (.string s)) ∧ Below w.heap.size w W ∧ w.heap.size + 3 ≤ W.heap.size)
    (fun _ _ _ => False)
    (OwnFrom.and (OwnFrom.and (Own.from (holdsRow_own (w.heap.size + 3) (w.heap.size + 1) 25 9 1 (fun pre : List (Bd s.size) => pre.length) (fun pre : List (Bd s.size) => Tx.vals s (pre.map (·.1))) (fun _ _ => True)) _) (Own.from (boxed_own _ _ _) _)) (OwnFrom.and (ownFrom_below (Nat.le_refl _) (by omega)) (fun _ X Y row hs hg _ => Nat.le_trans hs hg.size)))
    (fun _ _ _ _ _ hs _ _ => hs)
    ⟨⟨⟨_, bL, World.ownsRow_nil _ _ _ _, trivial⟩, bS⟩, hB0, by omega⟩
    (fun x a' _ => a' = { tmps := #[.string s, .pointer (some ⟨w.heap.size, 0, none⟩), .slice none 0 0, .pointer (some ⟨w.heap.size + 1, 0, none⟩), .int .i64 (x.1.1 : Nat), .int .i64 (x.1.2 : Nat), .string s, .func (.func 27) #[] #[.pointer (some ⟨w.heap.size + 1 + 1, 0, none⟩)], .int .i64 (x.1.1 : Nat), .int .i64 (x.1.2 : Nat), undef, undef, undef, undef, undef, undef, undef, undef], defers := [] })
    (fun _ _ _ _ _ _ hs _ _ => hs)
    ?assign ?body ?done ?stop
  case assign =>
    rintro l pre x W K hi hK
    gi_wp2
    exact hK _ _ (KeepsFrom.refl _ _) (KpBox.refl _ _ _) hi rfl
  case body =>
    rintro l pre x a' W _ _ ⟨⟨⟨v, hv, hrow, _⟩, bS1⟩, hB1, hz⟩ rfl hlt
    have hx1 := x.2.1
    have hx2 := x.2.2
    obtain ⟨v', w1, hrun, hown', hgrow, _⟩ := run_append_own (P := Try.prog) (W.alloc (.cells #[.string (s.extract x.1.1 x.1.2)] 9)).drew (w.heap.size + 3) 25 25 9 i0 (.string ⟨#[]⟩) 1 16 Try.underlying25 hi hz0 hz1 hz2 rfl (by decide) v pre.length (Tx.vals s (pre.map (·.1))) (own_drew (hrow.alloc _))
      ⟨W.heap.size, 0, none⟩ 1 1 [.string (s.extract x.1.1 x.1.2)] rfl (cell_one_new _ _ _) (by simp [Value.oneCell']) (by unfold maxLen; omega) (by omega) (by simp; omega)
    obtain ⟨hv1, hv2, hr2, hk2, hb2⟩ := app_facts hv (by omega) hz hrow hown' (grow_drew hgrow)
    obtain ⟨g', cap', rfl⟩ := ownsRow_succ hown'
    have hfin : KeepsFrom W0.heap.size W (w1.setCell ⟨w.heap.size + 1, 0, none⟩ (.slice (some ⟨g', 0, none⟩) (pre.length + 1) cap')) ∧ KpBox (w.heap.size + 1 + 1) s W (w1.setCell ⟨w.heap.size + 1, 0, none⟩ (.slice (some ⟨g', 0, none⟩) (pre.length + 1) cap')) ∧
        ((∃ v, Boxed (w1.setCell ⟨w.heap.size + 1, 0, none⟩ (.slice (some ⟨g', 0, none⟩) (pre.length + 1) cap')) (w.heap.size + 1) 25 v ∧ (w1.setCell ⟨w.heap.size + 1, 0, none⟩ (.slice (some ⟨g', 0, none⟩) (pre.length + 1) cap')).ownsRow (w.heap.size + 3) 9 1 v (pre ++ [x]).length (Tx.vals s ((pre ++ [x]).map (·.1))) ∧ True) ∧ Boxed (w1.setCell ⟨w.heap.size + 1, 0, none⟩ (.slice (some ⟨g', 0, none⟩) (pre.length + 1) cap')) w.heap.size 9 (.string s)) ∧
        Below w.heap.size w (w1.setCell ⟨w.heap.size + 1, 0, none⟩ (.slice (some ⟨g', 0, none⟩) (pre.length + 1) cap')) ∧ w.heap.size + 3 ≤ (w1.setCell ⟨w.heap.size + 1, 0, none⟩ (.slice (some ⟨g', 0, none⟩) (pre.length + 1) cap')).heap.size := by
      refine ⟨hk2.from _, KpBox.t (KpBox.of_below hb2 (by omega)) (KpBox.set (by omega) _), ⟨⟨_, hv2, by simpa [Tx.vals_snoc] using hr2, trivial⟩, Boxed.other ((hb2.block _ (by omega)).trans bS1) (by omega) _⟩, (hB1.trans (hb2.mono (by omega))).setCell (p := ⟨w.heap.size + 1, 0, none⟩) (by simp) _, ?_⟩
      have := hb2.size
      simp
      omega
    have HF : Hid _ := hfin
    have HR : Hid _ := hrun
    have cL := hv.cell
    have cA : ∀ o, (W.alloc o).cell? ⟨w.heap.size + 1, 0, none⟩ = some v := fun o => (hv.alloc o).cell
    have cS := bS1.cell
    have cL1 := hv1.cell
    have fL1 := hv1.frozen
    clear hfin hrun hv1 hv2 hr2 hk2 hb2 hgrow hown' hrow hB1 hi hz0 hz1 hz2
    gi_wp2
    refine wpIn_region_any hmx ?_
    change wpAnyIn _ _ _ _ _ _ _ _ _ (World.drew _)
    repeat' (first
      | with_reducible exact AllReadyIn.nil
      | (refine AllReadyIn.cons rfl (fun K hK => ?_) ?_; go_simp; refine hK _ _ ?_; clear hK K)
      | (refine wpAnyIn_ready (rs := [6]) (by decide +kernel) (by simp) ?_; refine AllReadyIn.cons rfl (fun K hK => ?_) AllReadyIn.nil; refine step_run_in rfl (.tmp 10) (.tmp 15) 25 rfl v (.slice (some ⟨W.heap.size, 0, none⟩) 1 1) _ _ rfl rfl HR.out ?_; refine hK _ _ ?_; clear hK K)
      | refine wpAnyIn_ready (rs := [0, 1, 2, 3]) (by decide +kernel) (by simp) ?_
      | refine wpAnyIn_ready (rs := [0, 1, 2]) (by decide +kernel) (by simp) ?_
      | refine wpAnyIn_ready (rs := [0, 1, 3]) (by decide +kernel) (by simp) ?_
      | refine wpAnyIn_ready (rs := [0, 2, 3]) (by decide +kernel) (by simp) ?_
      | refine wpAnyIn_ready (rs := [1, 2, 3]) (by decide +kernel) (by simp) ?_
      | refine wpAnyIn_ready (rs := [0, 1]) (by decide +kernel) (by simp) ?_
      | refine wpAnyIn_ready (rs := [0, 2]) (by decide +kernel) (by simp) ?_
      | refine wpAnyIn_ready (rs := [0, 3]) (by decide +kernel) (by simp) ?_
      | refine wpAnyIn_ready (rs := [1, 2]) (by decide +kernel) (by simp) ?_
      | refine wpAnyIn_ready (rs := [1, 3]) (by decide +kernel) (by simp) ?_
      | refine wpAnyIn_ready (rs := [2, 3]) (by decide +kernel) (by simp) ?_
      | refine wpAnyIn_ready (rs := [0]) (by decide +kernel) (by simp) ?_
      | refine wpAnyIn_ready (rs := [1]) (by decide +kernel) (by simp) ?_
      | refine wpAnyIn_ready (rs := [2]) (by decide +kernel) (by simp) ?_
      | refine wpAnyIn_ready (rs := [3]) (by decide +kernel) (by simp) ?_
      | refine wpAnyIn_ready (rs := [0, 4]) (by decide +kernel) (by simp) ?_
      | refine wpAnyIn_ready (rs := [4]) (by decide +kernel) (by simp) ?_
      | refine wpAnyIn_ready (rs := [0, 5]) (by decide +kernel) (by simp) ?_
      | refine wpAnyIn_ready (rs := [5]) (by decide +kernel) (by simp) ?_
      | refine wpAnyIn_ready (rs := [7]) (by decide +kernel) (by simp) ?_
      | (refine wpAnyIn_done (by decide +kernel) ?_ _; exact HF.out))
  case done =>
    rintro D ys W hD hys ⟨⟨⟨v, hv, hrow, _⟩, bS1⟩, hB1, hz⟩ hK
    have hc := hv.cell
    gi_wp2
    refine ⟨by simp, .inl ⟨_, _, rfl, run_takeDeferred hK, ?_⟩⟩
    rw [hys] at hrow
    have hl : ys.length = (Tx.lines s).length := by rw [← hys]; simp
    rw [hl] at hrow
    exact ⟨_, results_tmp rfl _ _ _, ⟨v, rfl, own_mono (ownsRow_putObj hrow _ hK rfl) (by omega)⟩, hB1.trans (belowK_b (w := w) (Nat.le_refl _) W D _ _ (by omega) hK rfl rfl)⟩
  case stop =>
    rintro D c pre W _ _ h _
    exact h.elim

theorem lines_any (s : ByteArray) (hs : s.size ≤ 2097152) (w : World) :
    Calls Try.prog 11 #[.string s] w fun e W' => (∃ v, e = .returned v ∧ W'.ownsRow w.heap.size 9 1 v (Tx.lines s).length (Tx.vals s (Tx.lines s))) ∧ Below w.heap.size w W' :=
  callsIn_wide.1 (lines_in 3 (by omega) s hs w)
end Go.Proofs.Ytmcjcgodapkkpaa
