/- itself, metasFrom, add, becomes; the places' scheme. -/
import Derived.Test.YtknlpeloaapaiaaTsM
namespace Go.Proofs.Ytknlpeloaapaiaa
open Go.RowKit
set_option linter.unusedVariables false
set_option linter.unusedSimpArgs false

theorem wpList_len1 {P : Program} {ops : Array Oper} {rest : List Oper} {o : Oper} {a : Act} {w : World} {Q : Exit → Act → World → Prop} (hgd : o.guard = none) (s : Operand) (t : TypeId)
    (ho : o.op = .call { callee := .builtin .len, args := #[s], argTypes := #[t] }) (v : Value) (hs : a.eval s = v) (v' : Value)
    (hr : (Builtin.len_ #[t] o.type #[v]).run P w = .ok v' w) (h : wpList P ops Q rest (a.put o.dst v') w) : wpList P ops Q (o :: rest) a w := by
  refine wpList_plain hgd fun _ hK => ?_
  unfold Oper.wp execOp
  simp only [ho, resolve, invoke, builtin, Sem.run_bind, Sem.run_pure, Result.andThen_ok, List.map_toArray, List.map_cons, List.map_nil, hs, hr]
  exact hK _ _ h
theorem wpList_mapUp {P : Program} {ops : Array Oper} {rest : List Oper} {o : Oper} {a : Act} {w : World} {Q : Exit → Act → World → Prop} (hgd : o.guard = none) (m x v : Operand) (t : TypeId) (hop : o.op = .mapUpdate t m x v)
    (vm vx vv : Value) (hm : a.eval m = vm) (hx : a.eval x = vx) (hv : a.eval v = vv) (w' : World) (hr : (Instr.mapUpdate t vm vx vv).run P w = .ok () w') (h : wpList P ops Q rest (a.put o.dst undef) w') : wpList P ops Q (o :: rest) a w := by
  refine wpList_plain hgd fun _ hK => ?_
  unfold Oper.wp
  simp [execOp, hop, hm, hx, hv, hr, Result.andThen]
  exact hK _ _ h
theorem wpList_look {P : Program} {ops : Array Oper} {rest : List Oper} {o : Oper} {a : Act} {w : World} {Q : Exit → Act → World → Prop} (hgd : o.guard = none) (m x : Operand) (t : TypeId) (c : Bool) (hop : o.op = .lookup t m x c)
    (vm vx v' : Value) (hm : a.eval m = vm) (hx : a.eval x = vx) (hr : (Instr.lookup t vm vx c).run P w = .ok v' w) (h : wpList P ops Q rest (a.put o.dst v') w) : wpList P ops Q (o :: rest) a w := by
  refine wpList_plain hgd fun _ hK => ?_
  unfold Oper.wp
  simp [execOp, hop, hm, hx, hr, Result.andThen]
  exact hK _ _ h

theorem itself_maker (w : World) : MakerOf 45 #[] #[] (fun k n => (k, n)) w := by
  intro wz k n hb hk hn
  refine Calls.mono (R := fun e w' => e = .returned (.tuple #[.int .i64 k, .int .i64 n]) ∧ Below wz.heap.size wz w') ?_ (fun e w' ⟨h1, h2⟩ => ⟨h1, hk, hn, h2⟩)
  simp only [Array.empty_append, Array.append_empty]
  clear hk hn
  go_enter Try.func45, Try.ntmps45
  go_wp2
  go_ret2
  exact ⟨rfl, Below.refl _ _⟩

/-- What places become. -/
def plf (L : List (Int × Int)) (k n : Int) : Int × Int := if (k, n) ∈ L then (8, (L.idxOf (k, n) : Nat)) else (k, n)
theorem enters_becomes : Enters 68 := enters_of Try.func68 (by kernel_rfl) rfl
theorem enters_itself : Enters 45 := enters_of Try.func45 (by kernel_rfl) rfl

set_option maxRecDepth 100000 in
theorem becomes_maker (w : World) (C : Nat) (L : List (Int × Int)) (hP : Pls w C L) (hL : L.length ≤ 2097152) : MakerOf 68 #[.map (some C)] #[] (plf L) w := by
  intro wz k n hb hk hn
  have hlook := (hP.stays hb).look hL hk hn
  have h64 : R64 (plf L k n).1 ∧ R64 (plf L k n).2 := by
    unfold plf
    by_cases h : (k, n) ∈ L
    · rw [if_pos h]
      have := List.idxOf_lt_length_iff.2 h
      exact ⟨⟨show (-9223372036854775808 : Int) ≤ 8 by decide, show (8 : Int) ≤ 9223372036854775807 by decide⟩, ⟨by simp only; omega, by simp only; omega⟩⟩
    · rw [if_neg h]; exact ⟨hk, hn⟩
  refine Calls.mono (R := fun e w' => e = .returned (.tuple #[.int .i64 (plf L k n).1, .int .i64 (plf L k n).2]) ∧ Below wz.heap.size wz w') ?_ (fun e w' ⟨h1, h2⟩ => ⟨h1, h64.1, h64.2, h2⟩)
  simp only [Array.append_empty]
  show Calls _ _ #[.map (some C), .int .i64 k, .int .i64 n] _ _
  unfold plf
  clear hk hn h64 hP hb hL
  by_cases h : (k, n) ∈ L
  · rw [if_pos h, decide_eq_true h] at hlook
    rw [if_pos h]
    generalize (L.idxOf (k, n)) = i at hlook
    clear h
    go_enter Try.func68, Try.ntmps68
    go_wp2_with (at_lookup; refine wpList_look rfl _ _ _ _ rfl _ _ _ rfl rfl hlook ?_)
    go_ret2
    exact ⟨rfl, Below.refl _ _⟩
  · rw [if_neg h, decide_eq_false h] at hlook
    rw [if_neg h]
    clear h
    go_enter Try.func68, Try.ntmps68
    go_wp2_with (at_lookup; refine wpList_look rfl _ _ _ _ rfl _ _ _ rfl rfl hlook ?_)
    go_ret2
    exact ⟨rfl, Below.refl _ _⟩

/-- The numbers from next on in place of TGen. -/
def mff (next k n : Int) : Int × Int := if k = 8 then (7, wrap64 (next + n)) else (k, n)
theorem wrap64_r (x : Int) : R64 (wrap64 x) := by unfold R64 wrap64; omega
theorem enters_mf : Enters 103 := enters_of Try.func103 (by kernel_rfl) rfl
theorem metasFrom_any (w : World) (next : Int) : Calls Try.prog 77 #[.int .i64 next] w fun e w' => e = .returned (.func (.func 103) #[] #[.pointer (some ⟨w.heap.size, 0, none⟩)]) ∧ w' = w.alloc (.cells #[.int .i64 next] 3) := by
  go_enter Try.func77, Try.ntmps77
  go_wp2
  go_ret
  exact ⟨rfl, rfl⟩
set_option maxRecDepth 100000 in
theorem mf_maker (w : World) (b : Nat) (next : Int) (hB : w.cell? ⟨b, 0, none⟩ = some (.int .i64 next)) : MakerOf 103 #[] #[.pointer (some ⟨b, 0, none⟩)] (mff next) w := by
  intro wz k n hb hk hn
  have hc : wz.cell? ⟨b, 0, none⟩ = some (.int .i64 next) := (hb.cell (p := ⟨b, 0, none⟩) (World.block_lt_of_cell? _ _ hB)).trans hB
  have h64 : R64 (mff next k n).1 ∧ R64 (mff next k n).2 := by
    unfold mff
    by_cases h : k = 8
    · rw [if_pos h]; exact ⟨⟨show (-9223372036854775808 : Int) ≤ 7 by decide, show (7 : Int) ≤ 9223372036854775807 by decide⟩, wrap64_r _⟩
    · rw [if_neg h]; exact ⟨hk, hn⟩
  refine Calls.mono (R := fun e w' => e = .returned (.tuple #[.int .i64 (mff next k n).1, .int .i64 (mff next k n).2]) ∧ Below wz.heap.size wz w') ?_ (fun e w' ⟨h1, h2⟩ => ⟨h1, h64.1, h64.2, h2⟩)
  simp only [Array.empty_append]
  show Calls _ _ #[.int .i64 k, .int .i64 n, .pointer (some ⟨b, 0, none⟩)] _ _
  clear hk hn h64 hB hb
  unfold mff
  by_cases h : k = 8
  · subst h
    rw [if_pos rfl]
    go_enter Try.func103, Try.ntmps103
    go_wp2
    go_quiet (fail)
    all_goals go_wp2
    all_goals go_ret2
    all_goals exact ⟨rfl, bl_drewN _ _⟩
  · rw [if_neg h]
    have ht : (k == (8 : Int)) = false := by simpa using h
    clear h
    go_enter Try.func103, Try.ntmps103
    go_wp2
    go_ret2
    exact ⟨rfl, Below.refl _ _⟩

theorem Ls.kept {w w' : World} {v : Value} {l : List Int} {C : Nat} {K : Nat → Prop} (h : Ls w K v l) (hg : w.grownBy w' (some C)) (hC : ∀ o : Nat, w.cell? ⟨C, o, none⟩ = none) : Ls w' K v l := by
  rcases h with ⟨b, o, c, hv, hb, hc, hm, hl⟩ | h
  · refine .inl ⟨b, o, c, hv, hb, hc, hm, fun j x hx => ?_⟩
    have h1 := hl j x hx
    have hne : b ≠ C := fun e => by rw [e, hC] at h1; cases h1
    obtain ⟨g1, g2, g3, g4, g5⟩ := hg
    rw [← h1]
    exact World.cell?_of_block (w := w) (g5 b (World.block_lt_of_cell? _ _ h1) (fun e => hne (by injection e)))
  · exact .inr h
theorem Pls.nocell {w : World} {C : Nat} {L : List (Int × Int)} (h : Pls w C L) (o : Nat) : w.cell? ⟨C, o, none⟩ = none := by
  obtain ⟨D, ⟨es, clock, hb, _⟩, _⟩ := h
  simp [World.cell?, hb]
theorem grown_tr {a b c : World} {C : Nat} (h : a.grownBy b (some C)) (k : b.grownBy c (some C)) : a.grownBy c (some C) := by
  obtain ⟨h1, h2, h3, h4, h5⟩ := h
  obtain ⟨k1, k2, k3, k4, k5⟩ := k
  exact ⟨k1.trans h1, k2.trans h2, k3.trans h3, Nat.le_trans h4 k4, fun j hj hne => (k5 j (Nat.lt_of_lt_of_le hj h4) hne).trans (h5 j hj hne)⟩
theorem grown_refl (a : World) (C : Nat) : a.grownBy a (some C) := ⟨rfl, rfl, rfl, Nat.le_refl _, fun _ _ _ => rfl⟩
def pls (kind : Int) (l : List Int) : List (Int × Int) := l.map fun n => (kind, n)

set_option maxHeartbeats 1000000 in
set_option maxRecDepth 100000 in
theorem add_any (w : World) (C : Nat) (L : List (Int × Int)) (kind : Int) (lv : Value) (l : List Int) (hP : Pls w C L) (hl : Ls w Any lv l) (hk : R64 kind) (h64 : ∀ x ∈ l, R64 x) (hd : (L ++ pls kind l).Nodup) (hL : (L ++ pls kind l).length ≤ 2097152) : Calls Try.prog 34 #[.map (some C), .int .i64 kind, lv] w fun e w' => e = .returned (.tuple #[]) ∧ Pls w' C (L ++ pls kind l) ∧ w.grownBy w' (some C) := by
  obtain ⟨a, c, rfl, hm⟩ := hl.form
  unfold maxLen at hm
  have HP := hid hP
  have HL := hid hl
  have H64 := hid h64
  have HD := hid hd
  have HN := hid hL
  clear hP hl h64 hd hL
  go_enter Try.func34, Try.ntmps34
  go_wp2
  go_loopw [10] (fun v wr => ∃ k : Nat, v = .int .i64 k ∧ k ≤ l.length ∧ Hid (Pls wr C (L ++ pls kind (l.take k))) ∧ Hid (Ls wr Any (.slice a l.length c) l) ∧ Hid (w.grownBy wr (some C))) (fun v _ => l.length - (intOf v).toNat)
  case atStart => exact ⟨0, rfl, Nat.zero_le _, (by show Pls _ _ _; simpa [pls] using HP.out), HL, grown_refl _ _⟩
  case round =>
    obtain ⟨k, rfl, hkl, hP1, hL1, hG1⟩ := hrel
    clear HP HL
    by_cases hlt : k < l.length
    · obtain ⟨b, o, c', hv, -, -, -, hcell⟩ := hL1.out.resolve_right (fun h => by rw [h.1] at hlt; exact absurd hlt (Nat.not_lt_zero _))
      injection hv with e1 e2 e3
      subst e1
      obtain ⟨x, hx⟩ : ∃ x, l[k]? = some x := ⟨_, List.getElem?_eq_getElem hlt⟩
      have hc := hcell k x hx
      have htake : l.take (k + 1) = l.take k ++ [x] := by
        obtain ⟨h1, e1⟩ := List.getElem?_eq_some_iff.1 hx
        rw [List.take_add_one, hx]; rfl
      have hnew : (kind, x) ∉ L ++ pls kind (l.take k) := by
        intro hmem
        have h2 := HD.out
        have h3 : L ++ pls kind l = (L ++ pls kind (l.take k)) ++ ((kind, x) :: pls kind (l.drop (k + 1))) := by
          obtain ⟨h1, e1⟩ := List.getElem?_eq_some_iff.1 hx
          have : l = l.take k ++ (x :: l.drop (k + 1)) := by rw [← e1, ← List.drop_eq_getElem_cons h1, List.take_append_drop]
          conv => lhs; rw [this]
          simp [pls]
        rw [h3] at h2
        exact (List.nodup_append.1 h2).2.2 _ hmem _ (by simp) rfl
      have hlen : (L ++ pls kind (l.take k)).length ≤ 2097152 := by have := HN.out; simp [pls] at this ⊢; omega
      obtain ⟨w2, hr2, hP2, hG2⟩ := hP1.out.put hlen hk (H64.out x (List.mem_of_getElem? hx)) hnew
      have HLEN := hP1.out.len
      generalize (L ++ pls kind (l.take k)).length = m at HLEN hr2
      rw [List.append_assoc, show pls kind (l.take k) ++ [(kind, x)] = pls kind (l.take (k + 1)) by rw [htake]; simp [pls]] at hP2
      have HP2 := hid hP2
      have HL2 := hid (hL1.out.kept hG2 hP1.out.nocell)
      have HG2 := hid (grown_tr hG1.out hG2)
      have HR2 := hid hr2
      clear hcell hx e2 e3 htake hnew hlen hr2 hP2 hG2 hP1 hL1 hG1 H64 HD HN
      go_wp2_with (first | (at_mapUpdate; refine wpList_mapUp rfl _ _ _ _ rfl _ _ _ rfl rfl rfl _ HR2.out ?_))
      go_roundw
      case rel => exact ⟨k + 1, by go_num, by omega, HP2, HL2, HG2⟩
      case measure => simp [intOf]; omega
    · have hk2 : k = l.length := by omega
      have HP3 : Hid (Pls wr C (L ++ pls kind l)) := by have := hP1.out; rw [hk2, List.take_length] at this; exact this
      clear hP1 HN HD H64
      go_wp2
      go_end0
      exact ⟨rfl, HP3.out, hG1.out⟩

set_option maxHeartbeats 1000000 in
set_option maxRecDepth 100000 in
theorem places_scheme (w : World) (C : Nat) (L : List (Int × Int)) (n : Nat) (vs : List Value) (t : Tp) (hP : Pls w C L) (hL : L.length ≤ 2097152) (hT : TAt w Any n vs t) (hc : t.cnt ≤ 1048576) : Calls Try.prog 37 #[.map (some C), .agg vs.toArray] w fun e w' => ∃ vs' n', e = .returned (.agg (.int .i64 (L.length : Nat) :: vs').toArray) ∧ TAt w' (fun b => w.heap.size ≤ b) n' vs' (Tp.ren (plf L) t) ∧ Below w.heap.size w w' := by
  have HB : Hid (∀ o o', Below w.heap.size w ((w.alloc o).alloc o')) := fun o o' => bl_alloc (bl_alloc (Below.refl _ _) _) _
  have hR : Hid (∀ o o', Calls Try.prog 44 #[.agg vs.toArray, .func (.func 68) #[.map (some C)] #[]] ((w.alloc o).alloc o') fun e w' => ∃ a n' c, e = .returned (.agg #[.int .i64 (Tp.ren (plf L) t).k, .int .i64 (Tp.ren (plf L) t).n, .slice a (Tp.ren (plf L) t).ks.length c]) ∧ TAt w' (fun b => ((w.alloc o).alloc o').heap.size ≤ b) n' [.int .i64 (Tp.ren (plf L) t).k, .int .i64 (Tp.ren (plf L) t).n, .slice a (Tp.ren (plf L) t).ks.length c] (Tp.ren (plf L) t) ∧ Below ((w.alloc o).alloc o').heap.size ((w.alloc o).alloc o') w') := by
    intro o o'
    refine (ren_any _ _ _ _ _ enters_becomes (becomes_maker _ C L (hP.stays (HB.out o o')) hL) n _ vs t (Below.refl _ _) (hT.below (HB.out o o')) hc).mono ?_
    rintro e w' ⟨vs', n', rfl, h1, h2⟩
    obtain ⟨a, c, rfl⟩ := h1.form
    exact ⟨a, n', c, rfl, h1, h2⟩
  have HLEN : ∀ o o' ty, (Builtin.len_ #[67] ty #[.map (some C)]).run Try.prog ((w.alloc o).alloc o') = .ok (.int .i64 (L.length : Nat)) ((w.alloc o).alloc o') := fun o o' ty => (hP.stays (HB.out o o')).len ty
  have hB1 : Hid (∀ o, Arr ((w.alloc o).alloc (.cells #[.int .i64 0, .int .i64 0, .int .i64 0, .slice none 0 0] 38)) (w.heap.size + 1) 38 [.int .i64 0, .int .i64 0, .int .i64 0, .slice none 0 0]) := fun o => ⟨by have := heap_alloc_at (w.alloc o) (.cells #[.int .i64 0, .int .i64 0, .int .i64 0, .slice none 0 0] 38); rw [size_alloc] at this; exact this⟩
  obtain ⟨a, c, rfl⟩ := hT.form
  generalize Tp.ren (plf L) t = y at hR
  generalize L.length = m at HLEN
  clear hP hL hT hc
  go_enter Try.func37, Try.ntmps37
  go_wp2_with (first | (go_at_call 44; go_loud (refine (hR.out _ _).mono ?_; rintro e w3 ⟨a3, n3, c3, rfl, hT3, hb3⟩; have HA := hid ((hB1.out _).stays hb3); have q1 := HA.out.cell; have q2 := HA.out.frozen; have HT3 := hid hT3; have HB3 := hid (bl_tr (HB.out _ _) hb3); clear hT3 hb3)))
  refine bodyPost_ret (v := .agg #[.int .i64 (m : Nat), .int .i64 y.k, .int .i64 y.n, .slice a3 y.ks.length c3]) (by rw [results_cell1 (fn := Try.f37) (p := 4) (ty := 38) (by kernel_rfl)]; simp [go_sem, q1, q2]) rfl ?_
  have hK : ∀ (W : World) j u, Keeps (fun b => w.heap.size + 2 ≤ b) W (W.setCell ⟨w.heap.size + 1, j, none⟩ u) := fun W j u => Keeps.set (K := fun b => w.heap.size + 2 ≤ b) (p := ⟨w.heap.size + 1, j, none⟩) (fun h => by simp at h) u
  have hs : ∀ (W : World) j u, Below w.heap.size w W → Below w.heap.size w (W.setCell ⟨w.heap.size + 1, j, none⟩ u) := fun W j u h => bl_set _ _ h (by show _ ≤ w.heap.size + 1; omega)
  refine ⟨[_, _, _], n3, rfl, ?_, hs _ _ _ (hs _ _ _ (hs _ _ _ (hs _ _ _ HB3.out)))⟩
  exact (HT3.out.move (Keeps.refl _ _) (fun b hb => by rw [size_alloc, size_alloc] at hb; exact hb)).move ((((hK _ _ _).trans (hK _ _ _)).trans (hK _ _ _)).trans (hK _ _ _)) (fun b hb => by omega)
end Go.Proofs.Ytknlpeloaapaiaa
