/- The document's own: found, Stamps, Metas, Gens. -/
import Derived.Test.YtigliglmejkakaaQal
import Derived.Test.YtigliglmejkakaaQad
namespace Go.Proofs.Ytigliglmejkakaa
open Go.RowKit
set_option linter.unusedVariables false
set_option linter.unusedSimpArgs false

theorem wpList_append2 {P : Program} {ops : Array Oper} {rest : List Oper} {o : Oper} {a : Act} {w : World} {Q : Exit → Act → World → Prop} (hgd : o.guard = none) (s x : Operand) (t : TypeId) (hop : o.op = .call { callee := .builtin .append, args := #[s, x], argTypes := #[t, t] })
    (base : Nat) (e : TypeId) (i : TypeInfo) (z : Value) (size bytes : Nat) (ht : P.underlying t = some (.slice e)) (hi : P.info? e = some i) (hz : i.zero = some z)
    (hsize : i.size = size) (hby : i.bytes = bytes) (hzs : z.cells.size = size) (hsz : 0 < size) (v : Value) (n : Nat) (xs : List Value) (hs : a.eval s = v) (hown : w.ownsRow base e size v n xs)
    (ad : Addr) (m c : Nat) (news : List Value) (hx : a.eval x = .slice (some ad) m c) (hl : news.length = m * size) (hnews : ∀ j u, news[j]? = some u → w.cell? (ad.add j) = some u) (h1 : ∀ u ∈ news, u.oneCell' = true)
    (h63 : n + m ≤ maxLen) (hbytes : (n + m) * bytes ≤ 140737488355328) (hbase : base ≤ w.heap.size)
    (hK : ∀ v' w', w'.ownsRow base e size v' (n + m) (xs ++ news) → w.grownBy w' v.ownBlock → Fresh w v v' → wpList P ops Q rest (a.put o.dst v') w') : wpList P ops Q (o :: rest) a w := by
  refine wpList_plain hgd fun K hK2 => ?_
  obtain ⟨v', w', hr, h2, h3, h4⟩ := append_own2 (P := P) w base t o.type e i z size bytes ht hi hz hsize hby hzs hsz v n xs hown ad m c news hl hnews h1 h63 hbytes hbase
  unfold Oper.wp execOp
  simp only [hop, resolve, invoke, builtin, Sem.run_bind, Sem.run_pure, Result.andThen_ok, List.map_toArray, List.map_cons, List.map_nil, hs, hx, hr]
  exact hK2 _ _ (hK v' w' h2 h3 h4)
/-- The list's own block. -/
def Ow (lv : Value) : Nat → Prop := fun b => lv.ownBlock = some b
theorem Tp.found_lenD (kind : Int) (t : Tp) (s : List Int) : (Tp.found kind t s).length ≤ s.length + t.cnt := by
  have h := Tp.walk_sz (sz := List.length) (fTake_len kind) t s
  rw [Tp.walk_take] at h
  exact h
theorem Tp.foundL_at {kind : Int} {xs : List Tp} {k : Nat} {x : Tp} (hx : xs[k]? = some x) (s : List Int) : Tp.foundL kind (xs.drop k) s = Tp.foundL kind (xs.drop (k + 1)) (Tp.found kind x s) := by
  obtain ⟨h1, e1⟩ := List.getElem?_eq_some_iff.1 hx
  rw [List.drop_eq_getElem_cons h1, e1, Tp.foundL_cons]
structure Fst (w : World) (B : Nat) (bx : List Value) (lv0 lv : Value) (s : List Int) (wr : World) : Prop where
  own : wr.ownsRow B 3 1 lv s.length (s.map (.int .i64))
  ev : Ev (Ow lv0) w (Ow lv) wr
  b : Arr wr w.heap.size 24 bx
  ne : lv.ownBlock ≠ some w.heap.size
def FoundOf (kind : Int) (B n : Nat) : Prop := ∀ (w : World) (vs : List Value) (t : Tp) (lv : Value) (s : List Int), TAt w (fun b => b < B) n vs t → B ≤ w.heap.size → w.ownsRow B 3 1 lv s.length (s.map (.int .i64)) → s.length + t.cnt ≤ 1048576 →
  Calls Try.prog 47 #[.agg vs.toArray, .int .i64 kind, lv] w fun e w' => ∃ lv', e = .returned lv' ∧ w'.ownsRow B 3 1 lv' (Tp.found kind t s).length ((Tp.found kind t s).map (.int .i64)) ∧ Ev (Ow lv) w (Ow lv') w'
theorem Fst.next {w : World} {B : Nat} {bx : List Value} {lv0 lv lv' : Value} {s s' : List Int} {wr w' : World} (h : Fst w B bx lv0 lv s wr) (ho : w'.ownsRow B 3 1 lv' s'.length (s'.map (.int .i64))) (he : Ev (Ow lv) wr (Ow lv') w') : Fst w B bx lv0 lv' s' w' := by
  refine ⟨ho, h.ev.trans he, ⟨?_⟩, fun e => ?_⟩
  · rw [he.block _ h.b.lt h.ne]; exact h.b.b
  · rcases he.mine _ e with h1 | h1
    · exact h.ne h1
    · have := h.b.lt; omega
theorem Fst.stays {w : World} {B : Nat} {bx : List Value} {lv0 lv : Value} {s : List Int} {wr w' : World} (h : Fst w B bx lv0 lv s wr) (hb : Below wr.heap.size wr w') : Fst w B bx lv0 lv s w' := ⟨own_stays h.own hb, h.ev.trans (Ev.of_below hb), h.b.stays hb, h.ne⟩
theorem Ev.app {lv lv' : Value} {w w' : World} (hg : w.grownBy w' lv.ownBlock) (hf : Fresh w lv lv') : Ev (Ow lv) w (Ow lv') w' := by
  obtain ⟨g1, g2, g3, g4, g5⟩ := hg
  refine ⟨g1, g2, g3, g4, fun b hb => ?_, fun b hb hn => g5 b hb (fun e => hn e.symm)⟩
  rcases hf with hf | hf
  · exact .inl (by show lv.ownBlock = some b; rw [← hf]; exact hb)
  · exact .inr (hf b hb)

set_option maxHeartbeats 2000000 in
set_option maxRecDepth 100000 in
theorem found_step (kind : Int) (B n : Nat) (ih : FoundOf kind B n) : FoundOf kind B (n + 1) := by
  intro w vs t lv s hT hB hown hc
  obtain ⟨v, rfl, hk64, hn64, hL⟩ := hT.open_
  obtain ⟨a1, c1, rfl, hm⟩ := hL.form
  unfold maxLen at hm
  have HL : Hid (TAtL w (fun b => b < B) n (.slice a1 t.ks.length c1) t.ks) := hL
  have HB : Hid (B ≤ w.heap.size) := hB
  have hf0 : Tp.found kind t s = Tp.foundL kind t.ks (if t.k = kind then Tp.ins s t.n else s) := by obtain ⟨k, m, ks⟩ := t; exact Tp.found_mk kind k m ks s
  rw [Tp.cnt_ksB] at hc
  have X : Hid (Arr (w.alloc (.cells #[.int .i64 t.k, .int .i64 t.n, .slice a1 t.ks.length c1] 24)) w.heap.size 24 [.int .i64 t.k, .int .i64 t.n, .slice a1 t.ks.length c1]) := ⟨heap_alloc_at _ _⟩
  have hIn : Hid (Calls Try.prog 53 #[lv, .int .i64 t.n] (w.alloc (.cells #[.int .i64 t.k, .int .i64 t.n, .slice a1 t.ks.length c1] 24)) fun e w' => e = .returned (.bool (Tp.has t.n s)) ∧ w' = (w.alloc (.cells #[.int .i64 t.k, .int .i64 t.n, .slice a1 t.ks.length c1] 24))) := refIn_any _ lv s t.n ((Ls.of_own hown).below (bl_alloc (Below.refl _ _) _))
  obtain ⟨p0, q0, rfl⟩ := own_form hown
  have FS0 : Hid (Fst w B [.int .i64 t.k, .int .i64 t.n, .slice a1 t.ks.length c1] (.slice p0 s.length q0) (.slice p0 s.length q0) s (w.alloc (.cells #[.int .i64 t.k, .int .i64 t.n, .slice a1 t.ks.length c1] 24))) := ⟨own_stays hown (bl_alloc (Below.refl _ _) _), Ev.of_below (bl_alloc (Below.refl _ _) _), X.out, fun e => by have := (hown.lt _ e).2; omega⟩
  obtain ⟨j0, hj0, hy0, hy1, hy2⟩ := info_parts0 info_int
  have HO : Hid (w.ownsRow B 3 1 (.slice p0 s.length q0) s.length (s.map (.int .i64))) := hown
  have hsl : s.length < 1048576 := by omega
  clear hT hL hown hk64 hn64 X hB
  have HC : Hid (s.length + (Tp.cntL t.ks + 1) ≤ 1048576) := hc
  clear hc
  by_cases hk : t.k = kind
  · have hk2 : (t.k == kind) = true := by rw [beq_iff_eq]; exact hk
    rw [if_pos hk] at hf0
    by_cases hi : t.n ∈ s
    · have hh : Tp.has t.n s = true := by rw [Tp.has_mem]; exact decide_eq_true hi
      rw [show Tp.ins s t.n = s by unfold Tp.ins; rw [if_pos hi]] at hf0
      have HF0 : Hid (Tp.found kind t s = Tp.foundL kind t.ks s) := hf0
      rw [hh] at hIn
      clear hi hh hk hf0
      go_enter Try.func47, Try.ntmps47
      go_wp2_with (go_at_call 53; refine hIn.out.mono ?_; rintro e w2 ⟨rfl, hw⟩; rw [hw]; clear hw w2)
      go_loopw [7, 2] (fun v u wr => ∃ (k : Nat) (pv : Option Addr) (cv : Nat) (s' : List Int), v = .int .i64 k ∧ u = .slice pv s'.length cv ∧ k ≤ t.ks.length ∧ Hid (Tp.found kind t s = Tp.foundL kind (t.ks.drop k) s') ∧ Hid (s'.length + Tp.cntL (t.ks.drop k) ≤ 1048576) ∧ Fst w B [.int .i64 t.k, .int .i64 t.n, .slice a1 t.ks.length c1] (.slice p0 s.length q0) (.slice pv s'.length cv) s' wr) (fun v _ _ => t.ks.length - (intOf v).toNat)
      case atStart => exact ⟨0, p0, q0, s, rfl, rfl, Nat.zero_le _, HF0, by show _ ≤ _; have := HC.out; rw [List.drop_zero]; omega, FS0.out⟩
      case round =>
        obtain ⟨k, pv, cv, s', rfl, rfl, hk, HF, HZ, FS⟩ := hrel
        have y0 := FS.b.cell
        by_cases hlt : k < t.ks.length
        · obtain ⟨g, o, rfl⟩ : ∃ b o, a1 = some ⟨b, o, none⟩ := by
            rcases HL.out with ⟨b, o, c, hv, -⟩ | ⟨h0, -⟩
            · injection hv with e1 e2 e3; exact ⟨b, o, e1⟩
            · rw [h0] at hlt; exact absurd hlt (Nat.not_lt_zero _)
          obtain ⟨x, hxk⟩ : ∃ x, t.ks[k]? = some x := ⟨_, List.getElem?_eq_getElem hlt⟩
          have HLr : TAtL wr (fun b => b < B) n (.slice (some ⟨g, o, none⟩) t.ks.length c1) t.ks := HL.out.move (fun b o u hb hu => (FS.ev.cell (p := ⟨b, o, none⟩) (World.block_lt_of_cell? w _ hu) (fun e => by have h1 := (HO.out.lt b e).1; omega)).trans hu) (fun _ h => h)
          obtain ⟨vx, tx, u0, u1, u2, -, -⟩ := HLr.elem hxk
          obtain ⟨ax, cx, ex⟩ := tx.form
          simp only [List.cons.injEq, and_true, true_and] at ex
          subst ex
          have HQ : Hid (Calls Try.prog 47 #[.agg #[.int .i64 x.k, .int .i64 x.n, .slice ax x.ks.length cx], .int .i64 kind, .slice pv s'.length cv] wr fun e w' => ∃ lv', e = .returned lv' ∧ w'.ownsRow B 3 1 lv' (Tp.found kind x s').length ((Tp.found kind x s').map (.int .i64)) ∧ Ev (Ow (.slice pv s'.length cv)) wr (Ow lv') w') := ih wr _ x _ s' tx (Nat.le_trans HB.out FS.ev.size) FS.own (by have h := HZ.out; rw [Tp.cntL_dropB hxk] at h; omega)
          have HF2 : Hid (Tp.found kind t s = Tp.foundL kind (t.ks.drop (k + 1)) (Tp.found kind x s')) := HF.out.trans (Tp.foundL_at hxk s')
          have HZ2 : Hid ((Tp.found kind x s').length + Tp.cntL (t.ks.drop (k + 1)) ≤ 1048576) := by show _ ≤ _; have h := HZ.out; rw [Tp.cntL_dropB hxk] at h; have := Tp.found_lenD kind x s'; omega
          have FS2 : Hid (Fst w B _ _ (.slice pv s'.length cv) s' wr) := FS
          clear HF HZ FS HLr hxk tx ih HL
          go_wp2_with (go_at_call 47; refine HQ.out.mono ?_; rintro e w3 ⟨lv3, rfl, ho3, he3⟩; obtain ⟨p3, c3, rfl⟩ := own_form ho3; have FS3 : Hid (Fst w B _ _ (.slice p3 _ c3) _ w3) := FS2.out.next ho3 he3; clear ho3 he3)
          go_roundw
          case rel => exact ⟨k + 1, p3, c3, _, by go_num, rfl, by omega, HF2, HZ2, FS3.out⟩
          case measure => simp [intOf]; omega
        · have HX : Hid (Tp.found kind t s = s') := by show _ = _; rw [HF.out, List.drop_eq_nil_of_le (by omega)]; exact Tp.foundL_nil kind s'
          have FS2 : Hid (Fst w B _ _ (.slice pv s'.length cv) s' wr) := FS
          clear HF HZ ih HL FS
          go_wp2
          go_ret
          exact ⟨_, rfl, by rw [HX.out]; exact FS2.out.own, FS2.out.ev⟩
    · have hh : Tp.has t.n s = false := by rw [Tp.has_mem]; exact decide_eq_false hi
      rw [show Tp.ins s t.n = s ++ [t.n] by unfold Tp.ins; rw [if_neg hi]] at hf0
      have HF0 : Hid (Tp.found kind t s = Tp.foundL kind t.ks (s ++ [t.n])) := hf0
      rw [hh] at hIn
      clear hi hh hk hf0
      have b7 : Below (w.alloc (.cells #[.int .i64 t.k, .int .i64 t.n, .slice a1 t.ks.length c1] 24)).heap.size (w.alloc (.cells #[.int .i64 t.k, .int .i64 t.n, .slice a1 t.ks.length c1] 24)) ((w.alloc (.cells #[.int .i64 t.k, .int .i64 t.n, .slice a1 t.ks.length c1] 24)).alloc (.cells #[.int .i64 t.n] 3)) := bl_alloc (Below.refl _ _) _
      have FS7 : Hid (Fst w B [.int .i64 t.k, .int .i64 t.n, .slice a1 t.ks.length c1] (.slice p0 s.length q0) (.slice p0 s.length q0) s ((w.alloc (.cells #[.int .i64 t.k, .int .i64 t.n, .slice a1 t.ks.length c1] 24)).alloc (.cells #[.int .i64 t.n] 3))) := FS0.out.stays b7
      have hY : Hid (∀ (j : Nat) u, ([.int .i64 t.n] : List Value)[j]? = some u → ((w.alloc (.cells #[.int .i64 t.k, .int .i64 t.n, .slice a1 t.ks.length c1] 24)).alloc (.cells #[.int .i64 t.n] 3)).cell? (Addr.add ⟨w.heap.size + 1, 0, none⟩ j) = some u) := fun j u hu => by
        have hh := heap_alloc_at (w.alloc (.cells #[.int .i64 t.k, .int .i64 t.n, .slice a1 t.ks.length c1] 24)) (.cells #[.int .i64 t.n] 3)
        rw [size_alloc] at hh
        rw [addr_add, Nat.zero_add, cell_at hh]; simpa using hu
      clear b7
      go_enter Try.func47, Try.ntmps47
      go_wp2_with (first | (go_at_call 53; refine hIn.out.mono ?_; rintro e w2 ⟨rfl, hw⟩; rw [hw]; clear hw w2) | (at_builtin; refine wpList_append2 rfl _ _ 49 rfl B 3 j0 (.int .i64 0) 1 8 Try.underlying49 hj0 hy0 hy1 hy2 rfl (by decide) _ s.length (s.map (.int .i64)) rfl FS7.out.own ⟨w.heap.size + 1, 0, none⟩ 1 1 [.int .i64 t.n] rfl rfl hY.out (by simp [Value.oneCell']) (by unfold maxLen; omega) (by omega) (Nat.le_trans HB.out FS7.out.ev.size) ?_; intro v' w9 hown' hgrow hfresh; obtain ⟨p9, c9, rfl⟩ := own_form hown'; have FS9 : Hid (Fst w B _ _ (.slice p9 (s.length + 1) c9) (s ++ [t.n]) w9) := FS7.out.next (by rw [List.length_append, List.map_append]; exact hown') (Ev.app hgrow hfresh); clear hown' hgrow hfresh))
      go_loopw [7, 2] (fun v u wr => ∃ (k : Nat) (pv : Option Addr) (cv : Nat) (s' : List Int), v = .int .i64 k ∧ u = .slice pv s'.length cv ∧ k ≤ t.ks.length ∧ Hid (Tp.found kind t s = Tp.foundL kind (t.ks.drop k) s') ∧ Hid (s'.length + Tp.cntL (t.ks.drop k) ≤ 1048576) ∧ Fst w B [.int .i64 t.k, .int .i64 t.n, .slice a1 t.ks.length c1] (.slice p0 s.length q0) (.slice pv s'.length cv) s' wr) (fun v _ _ => t.ks.length - (intOf v).toNat)
      case atStart => exact ⟨0, p9, c9, s ++ [t.n], rfl, by rw [List.length_append]; rfl, Nat.zero_le _, HF0, by show _ ≤ _; have := HC.out; rw [List.drop_zero, List.length_append]; simp only [List.length_singleton]; omega, by rw [List.length_append]; exact FS9.out⟩
      case round =>
        obtain ⟨k, pv, cv, s', rfl, rfl, hk, HF, HZ, FS⟩ := hrel
        have y0 := FS.b.cell
        by_cases hlt : k < t.ks.length
        · obtain ⟨g, o, rfl⟩ : ∃ b o, a1 = some ⟨b, o, none⟩ := by
            rcases HL.out with ⟨b, o, c, hv, -⟩ | ⟨h0, -⟩
            · injection hv with e1 e2 e3; exact ⟨b, o, e1⟩
            · rw [h0] at hlt; exact absurd hlt (Nat.not_lt_zero _)
          obtain ⟨x, hxk⟩ : ∃ x, t.ks[k]? = some x := ⟨_, List.getElem?_eq_getElem hlt⟩
          have HLr : TAtL wr (fun b => b < B) n (.slice (some ⟨g, o, none⟩) t.ks.length c1) t.ks := HL.out.move (fun b o u hb hu => (FS.ev.cell (p := ⟨b, o, none⟩) (World.block_lt_of_cell? w _ hu) (fun e => by have h1 := (HO.out.lt b e).1; omega)).trans hu) (fun _ h => h)
          obtain ⟨vx, tx, u0, u1, u2, -, -⟩ := HLr.elem hxk
          obtain ⟨ax, cx, ex⟩ := tx.form
          simp only [List.cons.injEq, and_true, true_and] at ex
          subst ex
          have HQ : Hid (Calls Try.prog 47 #[.agg #[.int .i64 x.k, .int .i64 x.n, .slice ax x.ks.length cx], .int .i64 kind, .slice pv s'.length cv] wr fun e w' => ∃ lv', e = .returned lv' ∧ w'.ownsRow B 3 1 lv' (Tp.found kind x s').length ((Tp.found kind x s').map (.int .i64)) ∧ Ev (Ow (.slice pv s'.length cv)) wr (Ow lv') w') := ih wr _ x _ s' tx (Nat.le_trans HB.out FS.ev.size) FS.own (by have h := HZ.out; rw [Tp.cntL_dropB hxk] at h; omega)
          have HF2 : Hid (Tp.found kind t s = Tp.foundL kind (t.ks.drop (k + 1)) (Tp.found kind x s')) := HF.out.trans (Tp.foundL_at hxk s')
          have HZ2 : Hid ((Tp.found kind x s').length + Tp.cntL (t.ks.drop (k + 1)) ≤ 1048576) := by show _ ≤ _; have h := HZ.out; rw [Tp.cntL_dropB hxk] at h; have := Tp.found_lenD kind x s'; omega
          have FS2 : Hid (Fst w B _ _ (.slice pv s'.length cv) s' wr) := FS
          clear HF HZ FS HLr hxk tx ih HL
          go_wp2_with (go_at_call 47; refine HQ.out.mono ?_; rintro e w3 ⟨lv3, rfl, ho3, he3⟩; obtain ⟨p3, c3, rfl⟩ := own_form ho3; have FS3 : Hid (Fst w B _ _ (.slice p3 _ c3) _ w3) := FS2.out.next ho3 he3; clear ho3 he3)
          go_roundw
          case rel => exact ⟨k + 1, p3, c3, _, by go_num, rfl, by omega, HF2, HZ2, FS3.out⟩
          case measure => simp [intOf]; omega
        · have HX : Hid (Tp.found kind t s = s') := by show _ = _; rw [HF.out, List.drop_eq_nil_of_le (by omega)]; exact Tp.foundL_nil kind s'
          have FS2 : Hid (Fst w B _ _ (.slice pv s'.length cv) s' wr) := FS
          clear HF HZ ih HL FS
          go_wp2
          go_ret
          exact ⟨_, rfl, by rw [HX.out]; exact FS2.out.own, FS2.out.ev⟩
  · have hk2 : (t.k == kind) = false := by rw [beq_eq_false_iff_ne]; exact hk
    rw [if_neg hk] at hf0
    have HF0 : Hid (Tp.found kind t s = Tp.foundL kind t.ks s) := hf0
    clear hk hIn hf0
    go_enter Try.func47, Try.ntmps47
    go_wp2
    go_loopw [7, 2] (fun v u wr => ∃ (k : Nat) (pv : Option Addr) (cv : Nat) (s' : List Int), v = .int .i64 k ∧ u = .slice pv s'.length cv ∧ k ≤ t.ks.length ∧ Hid (Tp.found kind t s = Tp.foundL kind (t.ks.drop k) s') ∧ Hid (s'.length + Tp.cntL (t.ks.drop k) ≤ 1048576) ∧ Fst w B [.int .i64 t.k, .int .i64 t.n, .slice a1 t.ks.length c1] (.slice p0 s.length q0) (.slice pv s'.length cv) s' wr) (fun v _ _ => t.ks.length - (intOf v).toNat)
    case atStart => exact ⟨0, p0, q0, s, rfl, rfl, Nat.zero_le _, HF0, by show _ ≤ _; have := HC.out; rw [List.drop_zero]; omega, FS0.out⟩
    case round =>
      obtain ⟨k, pv, cv, s', rfl, rfl, hk, HF, HZ, FS⟩ := hrel
      have y0 := FS.b.cell
      by_cases hlt : k < t.ks.length
      · obtain ⟨g, o, rfl⟩ : ∃ b o, a1 = some ⟨b, o, none⟩ := by
          rcases HL.out with ⟨b, o, c, hv, -⟩ | ⟨h0, -⟩
          · injection hv with e1 e2 e3; exact ⟨b, o, e1⟩
          · rw [h0] at hlt; exact absurd hlt (Nat.not_lt_zero _)
        obtain ⟨x, hxk⟩ : ∃ x, t.ks[k]? = some x := ⟨_, List.getElem?_eq_getElem hlt⟩
        have HLr : TAtL wr (fun b => b < B) n (.slice (some ⟨g, o, none⟩) t.ks.length c1) t.ks := HL.out.move (fun b o u hb hu => (FS.ev.cell (p := ⟨b, o, none⟩) (World.block_lt_of_cell? w _ hu) (fun e => by have h1 := (HO.out.lt b e).1; omega)).trans hu) (fun _ h => h)
        obtain ⟨vx, tx, u0, u1, u2, -, -⟩ := HLr.elem hxk
        obtain ⟨ax, cx, ex⟩ := tx.form
        simp only [List.cons.injEq, and_true, true_and] at ex
        subst ex
        have HQ : Hid (Calls Try.prog 47 #[.agg #[.int .i64 x.k, .int .i64 x.n, .slice ax x.ks.length cx], .int .i64 kind, .slice pv s'.length cv] wr fun e w' => ∃ lv', e = .returned lv' ∧ w'.ownsRow B 3 1 lv' (Tp.found kind x s').length ((Tp.found kind x s').map (.int .i64)) ∧ Ev (Ow (.slice pv s'.length cv)) wr (Ow lv') w') := ih wr _ x _ s' tx (Nat.le_trans HB.out FS.ev.size) FS.own (by have h := HZ.out; rw [Tp.cntL_dropB hxk] at h; omega)
        have HF2 : Hid (Tp.found kind t s = Tp.foundL kind (t.ks.drop (k + 1)) (Tp.found kind x s')) := HF.out.trans (Tp.foundL_at hxk s')
        have HZ2 : Hid ((Tp.found kind x s').length + Tp.cntL (t.ks.drop (k + 1)) ≤ 1048576) := by show _ ≤ _; have h := HZ.out; rw [Tp.cntL_dropB hxk] at h; have := Tp.found_lenD kind x s'; omega
        have FS2 : Hid (Fst w B _ _ (.slice pv s'.length cv) s' wr) := FS
        clear HF HZ FS HLr hxk tx ih HL
        go_wp2_with (go_at_call 47; refine HQ.out.mono ?_; rintro e w3 ⟨lv3, rfl, ho3, he3⟩; obtain ⟨p3, c3, rfl⟩ := own_form ho3; have FS3 : Hid (Fst w B _ _ (.slice p3 _ c3) _ w3) := FS2.out.next ho3 he3; clear ho3 he3)
        go_roundw
        case rel => exact ⟨k + 1, p3, c3, _, by go_num, rfl, by omega, HF2, HZ2, FS3.out⟩
        case measure => simp [intOf]; omega
      · have HX : Hid (Tp.found kind t s = s') := by show _ = _; rw [HF.out, List.drop_eq_nil_of_le (by omega)]; exact Tp.foundL_nil kind s'
        have FS2 : Hid (Fst w B _ _ (.slice pv s'.length cv) s' wr) := FS
        clear HF HZ ih HL FS
        go_wp2
        go_ret
        exact ⟨_, rfl, by rw [HX.out]; exact FS2.out.own, FS2.out.ev⟩
theorem found_any (kind : Int) (B : Nat) : ∀ n, FoundOf kind B n
  | 0 => fun w vs t lv s h _ _ _ => h.elim
  | n + 1 => found_step kind B n (found_any kind B n)
end Go.Proofs.Ytigliglmejkakaa
