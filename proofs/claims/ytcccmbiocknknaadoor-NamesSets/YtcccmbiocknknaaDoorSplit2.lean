/- What Split comes to: the path between the points, or Path's error. -/
import Derived.Maps.AppendAt
import Derived.Test.YtcccmbiocknknaaDoorSplit1
import Derived.Test.YtcccmbiocknknaaDoorPath
namespace Go.Proofs.YtcccmbiocknknaaDoor
open Go.RowKit Go.Shelf
set_option linter.unusedVariables false
attribute [local go_sem] Oper.semAt_some

theorem info_string : (Tryd.prog.info? 9).map (fun i => (i.zero, i.size, i.bytes)) = some (some (.string ⟨#[]⟩), 1, 16) := by kernel_rfl

theorem own_mono {w : World} {base base' : Nat} {e : TypeId} {size : Nat} {v : Value} {n : Nat} {xs : List Value} (h : w.ownsRow base e size v n xs) (hb : base' ≤ base) : w.ownsRow base' e size v n xs :=
  ⟨h.1, h.2.imp id fun ⟨g, cap, cur, h1, h2, h3⟩ => ⟨g, cap, cur, h1, Nat.le_trans hb h2, h3⟩⟩
theorem own_block {w : World} {base : Nat} {e : TypeId} {size : Nat} {v : Value} {n : Nat} {xs : List Value} (h : w.ownsRow base e size v n xs) : ∀ j, v.ownBlock = some j → base ≤ j := fun j ej => by
  rcases h.2 with ⟨rfl, _⟩ | ⟨g, cap, cur, rfl, hg, _, _⟩
  · simp [Value.ownBlock] at ej
  · obtain rfl : g = j := by simpa [Value.ownBlock] using ej
    exact hg

/-- What an append to a row of one's own leaves, behind the store into the variable's box. -/
theorem app_facts {W w1 : World} {base B k m : Nat} {v v' : Value} {xs ys : List Value} {tmp : Obj} (hv : Boxed W B 22 v) (hlt : B < base) (hb : base ≤ W.heap.size)
    (hrow : W.ownsRow base 9 1 v k xs) (hown' : w1.ownsRow base 9 1 v' m ys) (hgrow : (W.alloc tmp).grownBy w1 v.ownBlock) :
    Boxed w1 B 22 v ∧ Boxed (w1.setCell ⟨B, 0, none⟩ v') B 22 v' ∧ (w1.setCell ⟨B, 0, none⟩ v').ownsRow base 9 1 v' m ys ∧ KeepsOthers W (w1.setCell ⟨B, 0, none⟩ v') ∧ Below base W w1 := by
  have e0 : W.ownsRow 0 9 1 v k xs := own_mono hrow (Nat.zero_le _)
  have e1 : w1.ownsRow 0 9 1 v' m ys := own_mono hown' (Nat.zero_le _)
  obtain ⟨a1, a2, a3, a4, a5⟩ := hv.appended (by decide) e0 (Nat.zero_le _) (Nat.zero_le _) e1 hgrow
  refine ⟨a1, a2, hown'.kept (grownBy_setCell' w1 B v') (.inr (a1.not_row (by decide) hown').symm), a4, ?_⟩
  exact ((Below.refl base W).alloc hb tmp).grown hgrow (by simp; omega) (own_block hrow)

/-- The names that Split collects: all of them, or nine. -/
def SpRow (w : World) (pre : List ByteArray) (W : World) : Prop :=
  (∃ v, Boxed W w.heap.size 22 v ∧ W.ownsRow (w.heap.size + 4) 9 1 v pre.length (pre.map Value.string) ∧ True) ∧ Below w.heap.size w W ∧ w.heap.size + 4 ≤ W.heap.size

theorem SpRow.own (w W0 : World) (hsz : W0.heap.size = w.heap.size + 4) : OwnFrom W0.heap.size (SpRow w) :=
  OwnFrom.and (Own.from (holdsRow_own (w.heap.size + 4) w.heap.size 22 9 1 (fun pre : List ByteArray => pre.length) (fun pre : List ByteArray => pre.map Value.string) (fun _ _ => True)) _)
    (OwnFrom.and (ownFrom_below (Nat.le_refl _) (by omega)) (fun _ X Y row hs hg _ => Nat.le_trans hs hg.size))

theorem SpRow.box {w : World} {pre : List ByteArray} {A B : World} (h : SpRow w pre A) (hg : A.grownBy B (some (w.heap.size + 1))) : SpRow w pre B := by
  obtain ⟨⟨v, hv, hr, _⟩, hb, hz⟩ := h
  refine ⟨⟨v, hv.kept hg (fun e => by have := Option.some.inj e; omega), hr.kept hg (.inr fun e => ?_), trivial⟩, hb.trans ⟨hg.os, hg.tape, hg.output, hg.size, fun k hk => hg.block k (by have := hb.size; omega) (fun e => by have := Option.some.inj e; omega)⟩, Nat.le_trans hz hg.size⟩
  have := own_block hr _ e
  omega

/-- The values that Split hands back. -/
def Nm.splitV (s : ByteArray) : Int := Nm.path (Nm.pieces s)

theorem Nm.path_nine {xs : List ByteArray} (h : 8 < xs.length) : Nm.path xs = 3 := by unfold Nm.path; rw [if_neg (by omega), if_pos h]


theorem Nm.pieces_size {s x : ByteArray} (h : x ∈ Nm.pieces s) : x.size ≤ s.size := by
  have key : ∀ (l y : List UInt8), y ∈ Nm.splitL l → y.length ≤ l.length := by
    intro l
    induction l with
    | nil => intro y hy; simp [Nm.splitL] at hy; subst hy; simp
    | cons c t ih =>
      intro y hy
      unfold Nm.splitL at hy
      split at hy
      · rcases List.mem_cons.1 hy with rfl | hy
        · simp
        · have := ih y hy; simp; omega
      · split at hy
        · simp at hy; subst hy; simp
        · rename_i hd r he
          rcases List.mem_cons.1 hy with rfl | hy
          · have := ih hd (by rw [he]; simp); simp; omega
          · have := ih y (by rw [he]; simp [hy]); simp; omega
  obtain ⟨y, hy, rfl⟩ := List.mem_map.1 h
  have := key _ y hy
  rw [Nm.len] at this
  exact this

/-- A slice that is not longer than its room. -/
def CapOk : Value → Prop
  | .slice _ n c => n ≤ c
  | _ => True
theorem own_cap {w : World} {base : Nat} {e : TypeId} {size : Nat} {v : Value} {n : Nat} {xs : List Value} (h : w.ownsRow base e size v n xs) : CapOk v := by
  rcases h.2 with ⟨rfl, _⟩ | ⟨g, cap, cur, rfl, _, _, hc, _⟩
  · exact Nat.le_refl _
  · exact hc

/-- What Split hands back as its list. -/
def Nm.splitP (s : ByteArray) : List ByteArray := if Nm.splitV s = 0 then Nm.pieces s else []

set_option maxRecDepth 100000 in
set_option maxHeartbeats 2000000 in
theorem split_in (n : Nat) (hn : 3 ≤ n) (s : ByteArray) (hs : s.size ≤ maxLen) (w : World) :
    CallsIn Fence.wide n Tryd.prog 27 #[.string s] w fun e W' => (∃ v, e = .returned (.tuple #[v, .int .i64 (Nm.splitV s)]) ∧ Strs W' v (Nm.splitP s) ∧ CapOk v) ∧ Below w.heap.size w W' := by
  have h1 : 1 ≤ n := by omega
  obtain ⟨i0, hi, hz0, hz1, hz2⟩ := info_parts info_string
  refine callsIn_of_wp_marks Tryd.func27 rfl trivial ?_ rfl
  simp only [Tryd.ntmps27, List.size_toArray, List.length_cons, List.length_nil, Nat.reduceAdd, Nat.reduceSub, Array.replicate_succ, Array.replicate_zero, List.push_toArray, List.append_toArray, List.nil_append, List.cons_append]
  gi_wp2_with (refine ⟨trivial, ?_⟩; gi_at_call 52; refine (splitSeq_in _ _ _).mono ?_; rintro e w' ⟨rfl, rfl⟩)
  have b0 := (((Boxed.new w 22 (.slice none 0 0)).alloc (.cells #[.string s] 9)).alloc (.cells #[.string ⟨#[46]⟩] 9)).alloc (.cells #[.int .i64 0] 3)
  have bs := ((Boxed.new (w.alloc (.cells #[.slice none 0 0] 22)) 9 (.string s)).alloc (.cells #[.string ⟨#[46]⟩] 9)).alloc (.cells #[.int .i64 0] 3)
  have bp := (Boxed.new ((w.alloc (.cells #[.slice none 0 0] 22)).alloc (.cells #[.string s] 9)) 9 (.string ⟨#[46]⟩)).alloc (.cells #[.int .i64 0] 3)
  have bn := Boxed.new (((w.alloc (.cells #[.slice none 0 0] 22)).alloc (.cells #[.string s] 9)).alloc (.cells #[.string ⟨#[46]⟩] 9)) 3 (.int .i64 0)
  have hB0 : Below w.heap.size w ((((w.alloc (.cells #[.slice none 0 0] 22)).alloc (.cells #[.string s] 9)).alloc (.cells #[.string ⟨#[46]⟩] 9)).alloc (.cells #[.int .i64 0] 3)) :=
    ((((Below.refl _ w).alloc (Nat.le_refl _) _).alloc (by simp) _).alloc (by simp; omega) _).alloc (by simp; omega) _
  have hsz : ((((w.alloc (.cells #[.slice none 0 0] 22)).alloc (.cells #[.string s] 9)).alloc (.cells #[.string ⟨#[46]⟩] 9)).alloc (.cells #[.int .i64 0] 3)).heap.size = w.heap.size + 4 := by simp
  simp only [World.size_alloc] at bs bp bn
  obtain ⟨W0, hW0⟩ : ∃ W0, (((w.alloc (.cells #[.slice none 0 0] 22)).alloc (.cells #[.string s] 9)).alloc (.cells #[.string ⟨#[46]⟩] 9)).alloc (.cells #[.int .i64 0] 3) = W0 := ⟨_, rfl⟩
  rw [hW0] at b0 bs bp bn hB0 hsz ⊢
  clear hW0
  refine wpIn_rangeFunc_box rfl h1 (gf := 77) (Bs := w.heap.size + 1) (lb := #[.pointer (some ⟨w.heap.size + 1 + 1, 0, none⟩), .pointer (some ⟨w.heap.size + 1, 0, none⟩), .pointer (some ⟨w.heap.size + 1 + 2, 0, none⟩)]) rfl trivial (enters_of Tryd.func77 (by kernel_rfl) rfl)
    (iter_seq (n - 1) (by omega) (w.heap.size + 1) (w.heap.size + 1 + 1) (w.heap.size + 1 + 2) (by omega) (by omega) s hs W0 bs bp bn) (by omega) KpS.t (KpS.b (w := W0)) (fun _ => rfl)
    (fun pre W => SpRow w pre W ∧ pre.length ≤ 8)
    (fun c pre W => (SpRow w pre W ∧ pre.length = 9) ∧ c = .exit 0)
    (OwnFrom.and (SpRow.own w W0 hsz) (ownFrom_pure _ _))
    (fun c => OwnFrom.and (OwnFrom.and (SpRow.own w W0 hsz) (ownFrom_pure _ _)) (ownFrom_pure _ _))
    (fun pre A B h hg => ⟨h.1.box hg, h.2⟩)
    ⟨⟨⟨_, b0, World.ownsRow_nil _ _ _ _, trivial⟩, hB0, by omega⟩, by simp⟩
    (fun x a' _ => a' = { tmps := #[.string s, undef, .slice none 0 0, .int .i64 0, .pointer (some ⟨w.heap.size, 0, none⟩), .string x, undef, .string s, .func (.func 77) #[] #[.pointer (some ⟨w.heap.size + 1 + 1, 0, none⟩), .pointer (some ⟨w.heap.size + 1, 0, none⟩), .pointer (some ⟨w.heap.size + 1 + 2, 0, none⟩)], .string x, undef, undef, undef, undef, undef, undef, undef, undef, undef, undef, undef, undef, undef], defers := [] })
    (fun _ _ _ _ _ _ hs _ _ => hs)
    ?assign ?body ?done ?stop
  case assign =>
    rintro l pre x W K hi hK
    gi_wp2
    exact hK _ _ (KeepsFrom.refl _ _) (KpS.refl _ _ _ _) hi rfl
  case body =>
    rintro l pre x a' W _ _ ⟨⟨⟨v, hv, hrow, _⟩, hB1, hz⟩, hlen⟩ rfl hlt
    have HN : Hid (SpRow w pre W) := ⟨⟨v, hv, hrow, trivial⟩, hB1, hz⟩
    by_cases h9 : pre.length = 8
    · have hgt : (8 : Int) < (pre.length : Int) + 1 := by omega
      have H9 : Hid (pre.length = 8) := h9
      clear h9
      have cL := hv.cell
      gi_wp2_with (gi_at_builtin; refine wpListIn_append_own _ rfl _ _ 22 rfl (w.heap.size + 4) 9 i0 (.string ⟨#[]⟩) 1 16 Tryd.underlying22 hi hz0 hz1 hz2 rfl (by decide) v pre.length (pre.map Value.string) rfl (hrow.alloc _) ⟨W.heap.size, 0, none⟩ 1 1 [.string x] rfl rfl (cell_one_new _ _ _) (by simp [Value.oneCell']) (by unfold maxLen; omega) (by omega) (by simp; omega) ?_; intro v' w1 hown' hgrow _; obtain ⟨hv1, hv2, hr2, hk2, hb2⟩ := app_facts hv (by omega) hz hrow hown' hgrow; obtain ⟨g', cap', rfl⟩ := ownsRow_succ hown'; have fL1 := hv1.frozen; have cL1 := hv1.cell; have cL2 := hv2.cell)
      exact ⟨hk2.from _, ⟨⟨⟨_, hv2, by simpa using hr2, trivial⟩, (hB1.trans (hb2.mono (by omega))).setCell (p := ⟨w.heap.size, 0, none⟩) (by simp) _, by have := hb2.size; simp; omega⟩, by have := H9.out; simp; omega⟩, rfl⟩
    · have hgt : ¬ (8 : Int) < (pre.length : Int) + 1 := by omega
      have cL := hv.cell
      gi_wp2_with (gi_at_builtin; refine wpListIn_append_own _ rfl _ _ 22 rfl (w.heap.size + 4) 9 i0 (.string ⟨#[]⟩) 1 16 Tryd.underlying22 hi hz0 hz1 hz2 rfl (by decide) v pre.length (pre.map Value.string) rfl (hrow.alloc _) ⟨W.heap.size, 0, none⟩ 1 1 [.string x] rfl rfl (cell_one_new _ _ _) (by simp [Value.oneCell']) (by unfold maxLen; omega) (by omega) (by simp; omega) ?_; intro v' w1 hown' hgrow _; obtain ⟨hv1, hv2, hr2, hk2, hb2⟩ := app_facts hv (by omega) hz hrow hown' hgrow; obtain ⟨g', cap', rfl⟩ := ownsRow_succ hown'; have fL1 := hv1.frozen; have cL1 := hv1.cell; have cL2 := hv2.cell)
      exact ⟨hk2.from _, KpS.t (KpS.of_below hb2 (by omega) (by omega) (by omega)) (KpS.set (by omega) (by omega) (by omega) _), ⟨⟨_, hv2, by simpa using hr2, trivial⟩, (hB1.trans (hb2.mono (by omega))).setCell (p := ⟨w.heap.size, 0, none⟩) (by simp) _, by have := hb2.size; simp; omega⟩, by simp; omega⟩
  case done =>
    rintro D ys W hD hys ⟨⟨⟨v, hv, hrow, _⟩, hB1, hz⟩, hlen⟩ hK
    subst hys
    have hc := hv.cell
    have hst : Strs W v (Nm.pieces s) := Strs.own hrow
    have hsz : ∀ x, x ∈ Nm.pieces s → x.size ≤ maxLen := fun x hx => Nat.le_trans (Nm.pieces_size hx) hs
    have hlm : (Nm.pieces s).length ≤ maxLen := by unfold maxLen; omega
    by_cases h0 : Nm.path (Nm.pieces s) = 0
    · have H : Hid (Nm.splitV s = 0 ∧ Nm.splitP s = Nm.pieces s) := by
        have e : Nm.splitV s = 0 := h0
        exact ⟨e, by unfold Nm.splitP; rw [if_pos e]⟩
      have h0' : (Nm.path (Nm.pieces s) == 0) = true := by rw [h0]; rfl
      clear h0
      gi_wp2_with (refine ⟨trivial, ?_⟩; gi_at_call 29; refine (callsIn_wide.2 (path_any _ _ _ hst hsz hlm)).mono ?_; rintro e w' ⟨rfl, rfl⟩)
      refine ⟨by simp, .inl ⟨_, _, rfl, run_takeDeferred hK, ?_⟩⟩
      refine ⟨_, results_tmp2 rfl _ _ _, ⟨v, by rw [H.out.1]; rfl, ?_, own_cap hrow⟩, hB1.trans (belowK_b (w := w) (Nat.le_refl _) _ D _ _ (by omega) hK rfl rfl)⟩
      rw [H.out.2]
      exact Strs.own (ownsRow_putObj hrow _ hK rfl)
    · have H : Hid (Nm.splitV s = Nm.path (Nm.pieces s) ∧ Nm.splitP s = []) := by
        have e : ¬ Nm.splitV s = 0 := h0
        exact ⟨rfl, by unfold Nm.splitP; rw [if_neg e]⟩
      have h0' : (Nm.path (Nm.pieces s) == 0) = false := by rw [beq_eq_false_iff_ne]; exact h0
      clear h0
      gi_wp2_with (refine ⟨trivial, ?_⟩; gi_at_call 29; refine (callsIn_wide.2 (path_any _ _ _ hst hsz hlm)).mono ?_; rintro e w' ⟨rfl, rfl⟩)
      refine ⟨by simp, .inl ⟨_, _, rfl, run_takeDeferred hK, ?_⟩⟩
      refine ⟨_, results_tmp2 rfl _ _ _, ⟨.slice none 0 0, by rw [H.out.1]; rfl, ?_, Nat.le_refl _⟩, hB1.trans (belowK_b (w := w) (Nat.le_refl _) _ D _ _ (by omega) hK rfl rfl)⟩
      rw [H.out.2]
      exact Strs.nil _ _ _
  case stop =>
    rintro D c pre W hD hpre ⟨⟨⟨⟨v, hv, hrow, _⟩, hB1, hz⟩, hlen⟩, rfl⟩ hK
    have hc := hv.cell
    have hst : Strs W v pre := Strs.own hrow
    have hsz : ∀ x, x ∈ pre → x.size ≤ maxLen := fun x hx => Nat.le_trans (Nm.pieces_size (hpre.subset hx)) hs
    have hlm : pre.length ≤ maxLen := by unfold maxLen; omega
    have H : Hid (Nm.splitV s = Nm.path pre ∧ Nm.splitP s = []) := by
      have hle := hpre.length_le
      have e : Nm.splitV s = 3 := Nm.path_nine (by omega)
      exact ⟨by rw [e, Nm.path_nine (by omega)], by unfold Nm.splitP; rw [if_neg (by omega)]⟩
    have h0' : (Nm.path pre == 0) = false := by rw [Nm.path_nine (by omega)]; rfl
    clear hpre
    gi_wp2_with (refine ⟨trivial, ?_⟩; gi_at_call 29; refine (callsIn_wide.2 (path_any _ _ _ hst hsz hlm)).mono ?_; rintro e w' ⟨rfl, rfl⟩)
    refine ⟨by simp, .inl ⟨_, _, rfl, run_takeDeferred hK, ?_⟩⟩
    refine ⟨_, results_tmp2 rfl _ _ _, ⟨.slice none 0 0, by rw [H.out.1]; rfl, ?_, Nat.le_refl _⟩, hB1.trans (belowK_b (w := w) (Nat.le_refl _) _ D _ _ (by omega) hK rfl rfl)⟩
    rw [H.out.2]
    exact Strs.nil _ _ _

theorem split_any (s : ByteArray) (hs : s.size ≤ maxLen) (w : World) :
    Calls Tryd.prog 27 #[.string s] w fun e W' => (∃ v, e = .returned (.tuple #[v, .int .i64 (Nm.splitV s)]) ∧ Strs W' v (Nm.splitP s) ∧ CapOk v) ∧ Below w.heap.size w W' :=
  callsIn_wide.1 (split_in 3 (by omega) s hs w)
end Go.Proofs.YtcccmbiocknknaaDoor
