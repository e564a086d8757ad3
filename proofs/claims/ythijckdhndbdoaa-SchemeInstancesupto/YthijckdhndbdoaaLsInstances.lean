/- SchemeInstances: the walk, and what it rests on. -/
import Derived.Test.YthijckdhndbdoaaTpPv
import Derived.Test.YthijckdhndbdoaaTpS3
import Derived.Test.YthijckdhndbdoaaTpG
import Derived.Test.YthijckdhndbdoaaTpPg
import Derived.Test.YthijckdhndbdoaaTpFr
import Derived.Test.YthijckdhndbdoaaTsP
import Derived.Deep.QuietTactic
import Derived.Deep.Cut
import Derived.Deep.CutRange
import Derived.Test.YthijckdhndbdoaaTpZ
import Derived.Test.YthijckdhndbdoaaTsIn
import Derived.Test.YthijckdhndbdoaaTsGn
import Derived.Test.YthijckdhndbdoaaTsY
import Derived.Test.YthijckdhndbdoaaTsM2
import Derived.Test.YthijckdhndbdoaaTpCp
import Derived.Test.YthijckdhndbdoaaTsA
import Derived.Test.YthijckdhndbdoaaTpE
import Derived.Test.YthijckdhndbdoaaTsB
namespace Go.Proofs.Ythijckdhndbdoaa

open Go.RowKit
set_option linter.unusedVariables false
set_option linter.unusedSimpArgs false

theorem wpList_append2 {P : Program} {ops : Array Oper} {rest : List Oper} {o : Oper} {a : Act} {w : World} {Q : Exit → Act → World → Prop} (hgd : o.guard = none) (s x : Operand) (t : TypeId) (hop : o.op = .call { callee := .builtin .append, args := #[s, x], argTypes := #[t, t] })
    (base : Nat) (e : TypeId) (i : TypeInfo) (z : Value) (size bytes : Nat) (ht : P.underlying t = some (.slice e)) (hi : P.info? e = some i) (hz : i.zero = some z)
    (hsize : i.size = size) (hby : i.bytes = bytes) (hzs : z.cells.size = size) (hsz : 0 < size) (v : Value) (n : Nat) (xs : List Value) (hs : a.eval s = v) (hown : w.ownsRow base e size v n xs)
    (ad : Addr) (m c : Nat) (news : List Value) (hx : a.eval x = .slice (some ad) m c) (hl : news.length = m * size) (hnews : ∀ j u, news[j]? = some u → w.cell? (ad.add j) = some u) (h1 : ∀ u ∈ news, u.oneCell' = true)
    (h63 : n + m ≤ maxLen) (hbytes : (n + m) * bytes ≤ 140737488355328) (hbase : base ≤ w.heap.size)
    (hK : ∀ v' w', w'.ownsRow base e size v' (n + m) (xs ++ news) → w.grownBy w' v.ownBlock → Fresh w v v' → wpList P ops Q rest (a.put o.dst v') w') : wpList P ops Q (o :: rest) a w := by
  refine wpList_plain hgd fun K hK2 => ?_
  obtain ⟨v', w', hr, h2, h3, h4⟩ := append_own2 (P := P) w base t o.type e i z size bytes ht hi hz hsize hby hzs hsz v n xs hown ad m c news hl hnews h1 h63 hbytes hbase
  unfold Oper.wp execOp
  simp only [hop, resolve, invoke, builtin, Sem.run_bind, Sem.run_pure, Result.andThen_ok, List.map_toArray, List.map_cons, List.map_nil, hs, hx, hr]
  exact hK2 _ _ (hK v' w' h2 h3 h4)
/-- The list's own block. -/
def Ow (lv : Value) : Nat → Prop := fun b => lv.ownBlock = some b
theorem Tp.found_lenD (kind : Int) (t : Tp) (s : List Int) : (Tp.found kind t s).length ≤ s.length + t.cnt := by
  have h := Tp.walk_sz (sz := List.length) (fTake_len kind) t s
  rw [Tp.walk_take] at h
  exact h
theorem Tp.foundL_at {kind : Int} {xs : List Tp} {k : Nat} {x : Tp} (hx : xs[k]? = some x) (s : List Int) : Tp.foundL kind (xs.drop k) s = Tp.foundL kind (xs.drop (k + 1)) (Tp.found kind x s) := by
  obtain ⟨h1, e1⟩ := List.getElem?_eq_some_iff.1 hx
  rw [List.drop_eq_getElem_cons h1, e1, Tp.foundL_cons]
structure Fst (w : World) (B : Nat) (bx : List Value) (lv0 lv : Value) (s : List Int) (wr : World) : Prop where
  own : wr.ownsRow B 3 1 lv s.length (s.map (.int .i64))
  ev : Ev (Ow lv0) w (Ow lv) wr
  b : Arr wr w.heap.size 24 bx
  ne : lv.ownBlock ≠ some w.heap.size
def FoundOf (kind : Int) (B n : Nat) : Prop := ∀ (w : World) (vs : List Value) (t : Tp) (lv : Value) (s : List Int), TAt w (fun b => b < B) n vs t → B ≤ w.heap.size → w.ownsRow B 3 1 lv s.length (s.map (.int .i64)) → s.length + t.cnt ≤ 1048576 →
  Calls Try.prog 58 #[.agg vs.toArray, .int .i64 kind, lv] w fun e w' => ∃ lv', e = .returned lv' ∧ w'.ownsRow B 3 1 lv' (Tp.found kind t s).length ((Tp.found kind t s).map (.int .i64)) ∧ Ev (Ow lv) w (Ow lv') w'
theorem Fst.next {w : World} {B : Nat} {bx : List Value} {lv0 lv lv' : Value} {s s' : List Int} {wr w' : World} (h : Fst w B bx lv0 lv s wr) (ho : w'.ownsRow B 3 1 lv' s'.length (s'.map (.int .i64))) (he : Ev (Ow lv) wr (Ow lv') w') : Fst w B bx lv0 lv' s' w' := by
  refine ⟨ho, h.ev.trans he, ⟨?_⟩, fun e => ?_⟩
  · rw [he.block _ h.b.lt h.ne]; exact h.b.b
  · rcases he.mine _ e with h1 | h1
    · exact h.ne h1
    · have := h.b.lt; omega
theorem Fst.stays {w : World} {B : Nat} {bx : List Value} {lv0 lv : Value} {s : List Int} {wr w' : World} (h : Fst w B bx lv0 lv s wr) (hb : Below wr.heap.size wr w') : Fst w B bx lv0 lv s w' := ⟨own_stays h.own hb, h.ev.trans (Ev.of_below hb), h.b.stays hb, h.ne⟩
theorem Ev.app {lv lv' : Value} {w w' : World} (hg : w.grownBy w' lv.ownBlock) (hf : Fresh w lv lv') : Ev (Ow lv) w (Ow lv') w' := by
  obtain ⟨g1, g2, g3, g4, g5⟩ := hg
  refine ⟨g1, g2, g3, g4, fun b hb => ?_, fun b hb hn => g5 b hb (fun e => hn e.symm)⟩
  rcases hf with hf | hf
  · exact .inl (by show lv.ownBlock = some b; rw [← hf]; exact hb)
  · exact .inr (hf b hb)

set_option maxHeartbeats 2000000 in
set_option maxRecDepth 100000 in
theorem found_step (kind : Int) (B n : Nat) (ih : FoundOf kind B n) : FoundOf kind B (n + 1) := by
  intro w vs t lv s hT hB hown hc
  obtain ⟨v, rfl, hk64, hn64, hL⟩ := hT.open_
  obtain ⟨a1, c1, rfl, hm⟩ := hL.form
  unfold maxLen at hm
  have HL : Hid (TAtL w (fun b => b < B) n (.slice a1 t.ks.length c1) t.ks) := hL
  have HB : Hid (B ≤ w.heap.size) := hB
  have hf0 : Tp.found kind t s = Tp.foundL kind t.ks (if t.k = kind then Tp.ins s t.n else s) := by obtain ⟨k, m, ks⟩ := t; exact Tp.found_mk kind k m ks s
  rw [Tp.cnt_ksB] at hc
  have X : Hid (Arr (w.alloc (.cells #[.int .i64 t.k, .int .i64 t.n, .slice a1 t.ks.length c1] 24)) w.heap.size 24 [.int .i64 t.k, .int .i64 t.n, .slice a1 t.ks.length c1]) := ⟨heap_alloc_at _ _⟩
  have hIn : Hid (Calls Try.prog 73 #[lv, .int .i64 t.n] (w.alloc (.cells #[.int .i64 t.k, .int .i64 t.n, .slice a1 t.ks.length c1] 24)) fun e w' => e = .returned (.bool (Tp.has t.n s)) ∧ w' = (w.alloc (.cells #[.int .i64 t.k, .int .i64 t.n, .slice a1 t.ks.length c1] 24))) := refIn_any _ lv s t.n ((Ls.of_own hown).below (bl_alloc (Below.refl _ _) _))
  obtain ⟨p0, q0, rfl⟩ := own_form hown
  have FS0 : Hid (Fst w B [.int .i64 t.k, .int .i64 t.n, .slice a1 t.ks.length c1] (.slice p0 s.length q0) (.slice p0 s.length q0) s (w.alloc (.cells #[.int .i64 t.k, .int .i64 t.n, .slice a1 t.ks.length c1] 24))) := ⟨own_stays hown (bl_alloc (Below.refl _ _) _), Ev.of_below (bl_alloc (Below.refl _ _) _), X.out, fun e => by have := (hown.lt _ e).2; omega⟩
  obtain ⟨j0, hj0, hy0, hy1, hy2⟩ := info_parts0 info_int
  have HO : Hid (w.ownsRow B 3 1 (.slice p0 s.length q0) s.length (s.map (.int .i64))) := hown
  have hsl : s.length < 1048576 := by omega
  clear hT hL hown hk64 hn64 X hB
  have HC : Hid (s.length + (Tp.cntL t.ks + 1) ≤ 1048576) := hc
  clear hc
  by_cases hk : t.k = kind
  · have hk2 : (t.k == kind) = true := by rw [beq_iff_eq]; exact hk
    rw [if_pos hk] at hf0
    by_cases hi : t.n ∈ s
    · have hh : Tp.has t.n s = true := by rw [Tp.has_mem]; exact decide_eq_true hi
      rw [show Tp.ins s t.n = s by unfold Tp.ins; rw [if_pos hi]] at hf0
      have HF0 : Hid (Tp.found kind t s = Tp.foundL kind t.ks s) := hf0
      rw [hh] at hIn
      clear hi hh hk hf0
      go_enter Try.func58, Try.ntmps58
      go_wp2_with (go_at_call 73; refine hIn.out.mono ?_; rintro e w2 ⟨rfl, hw⟩; rw [hw]; clear hw w2)
      go_loopw [7, 2] (fun v u wr => ∃ (k : Nat) (pv : Option Addr) (cv : Nat) (s' : List Int), v = .int .i64 k ∧ u = .slice pv s'.length cv ∧ k ≤ t.ks.length ∧ Hid (Tp.found kind t s = Tp.foundL kind (t.ks.drop k) s') ∧ Hid (s'.length + Tp.cntL (t.ks.drop k) ≤ 1048576) ∧ Fst w B [.int .i64 t.k, .int .i64 t.n, .slice a1 t.ks.length c1] (.slice p0 s.length q0) (.slice pv s'.length cv) s' wr) (fun v _ _ => t.ks.length - (intOf v).toNat)
      case atStart => exact ⟨0, p0, q0, s, rfl, rfl, Nat.zero_le _, HF0, by show _ ≤ _; have := HC.out; rw [List.drop_zero]; omega, FS0.out⟩
      case round =>
        obtain ⟨k, pv, cv, s', rfl, rfl, hk, HF, HZ, FS⟩ := hrel
        have y0 := FS.b.cell
        by_cases hlt : k < t.ks.length
        · obtain ⟨g, o, rfl⟩ : ∃ b o, a1 = some ⟨b, o, none⟩ := by
            rcases HL.out with ⟨b, o, c, hv, -⟩ | ⟨h0, -⟩
            · injection hv with e1 e2 e3; exact ⟨b, o, e1⟩
            · rw [h0] at hlt; exact absurd hlt (Nat.not_lt_zero _)
          obtain ⟨x, hxk⟩ : ∃ x, t.ks[k]? = some x := ⟨_, List.getElem?_eq_getElem hlt⟩
          have HLr : TAtL wr (fun b => b < B) n (.slice (some ⟨g, o, none⟩) t.ks.length c1) t.ks := HL.out.move (fun b o u hb hu => (FS.ev.cell (p := ⟨b, o, none⟩) (World.block_lt_of_cell? w _ hu) (fun e => by have h1 := (HO.out.lt b e).1; omega)).trans hu) (fun _ h => h)
          obtain ⟨vx, tx, u0, u1, u2, -, -⟩ := HLr.elem hxk
          obtain ⟨ax, cx, ex⟩ := tx.form
          simp only [List.cons.injEq, and_true, true_and] at ex
          subst ex
          have HQ : Hid (Calls Try.prog 58 #[.agg #[.int .i64 x.k, .int .i64 x.n, .slice ax x.ks.length cx], .int .i64 kind, .slice pv s'.length cv] wr fun e w' => ∃ lv', e = .returned lv' ∧ w'.ownsRow B 3 1 lv' (Tp.found kind x s').length ((Tp.found kind x s').map (.int .i64)) ∧ Ev (Ow (.slice pv s'.length cv)) wr (Ow lv') w') := ih wr _ x _ s' tx (Nat.le_trans HB.out FS.ev.size) FS.own (by have h := HZ.out; rw [Tp.cntL_dropB hxk] at h; omega)
          have HF2 : Hid (Tp.found kind t s = Tp.foundL kind (t.ks.drop (k + 1)) (Tp.found kind x s')) := HF.out.trans (Tp.foundL_at hxk s')
          have HZ2 : Hid ((Tp.found kind x s').length + Tp.cntL (t.ks.drop (k + 1)) ≤ 1048576) := by show _ ≤ _; have h := HZ.out; rw [Tp.cntL_dropB hxk] at h; have := Tp.found_lenD kind x s'; omega
          have FS2 : Hid (Fst w B _ _ (.slice pv s'.length cv) s' wr) := FS
          clear HF HZ FS HLr hxk tx ih HL
          go_wp2_with (go_at_call 58; refine HQ.out.mono ?_; rintro e w3 ⟨lv3, rfl, ho3, he3⟩; obtain ⟨p3, c3, rfl⟩ := own_form ho3; have FS3 : Hid (Fst w B _ _ (.slice p3 _ c3) _ w3) := FS2.out.next ho3 he3; clear ho3 he3)
          go_roundw
          case rel => exact ⟨k + 1, p3, c3, _, by go_num, rfl, by omega, HF2, HZ2, FS3.out⟩
          case measure => simp [intOf]; omega
        · have HX : Hid (Tp.found kind t s = s') := by show _ = _; rw [HF.out, List.drop_eq_nil_of_le (by omega)]; exact Tp.foundL_nil kind s'
          have FS2 : Hid (Fst w B _ _ (.slice pv s'.length cv) s' wr) := FS
          clear HF HZ ih HL FS
          go_wp2
          go_ret
          exact ⟨_, rfl, by rw [HX.out]; exact FS2.out.own, FS2.out.ev⟩
    · have hh : Tp.has t.n s = false := by rw [Tp.has_mem]; exact decide_eq_false hi
      rw [show Tp.ins s t.n = s ++ [t.n] by unfold Tp.ins; rw [if_neg hi]] at hf0
      have HF0 : Hid (Tp.found kind t s = Tp.foundL kind t.ks (s ++ [t.n])) := hf0
      rw [hh] at hIn
      clear hi hh hk hf0
      have b7 : Below (w.alloc (.cells #[.int .i64 t.k, .int .i64 t.n, .slice a1 t.ks.length c1] 24)).heap.size (w.alloc (.cells #[.int .i64 t.k, .int .i64 t.n, .slice a1 t.ks.length c1] 24)) ((w.alloc (.cells #[.int .i64 t.k, .int .i64 t.n, .slice a1 t.ks.length c1] 24)).alloc (.cells #[.int .i64 t.n] 3)) := bl_alloc (Below.refl _ _) _
      have FS7 : Hid (Fst w B [.int .i64 t.k, .int .i64 t.n, .slice a1 t.ks.length c1] (.slice p0 s.length q0) (.slice p0 s.length q0) s ((w.alloc (.cells #[.int .i64 t.k, .int .i64 t.n, .slice a1 t.ks.length c1] 24)).alloc (.cells #[.int .i64 t.n] 3))) := FS0.out.stays b7
      have hY : Hid (∀ (j : Nat) u, ([.int .i64 t.n] : List Value)[j]? = some u → ((w.alloc (.cells #[.int .i64 t.k, .int .i64 t.n, .slice a1 t.ks.length c1] 24)).alloc (.cells #[.int .i64 t.n] 3)).cell? (Addr.add ⟨w.heap.size + 1, 0, none⟩ j) = some u) := fun j u hu => by
        have hh := heap_alloc_at (w.alloc (.cells #[.int .i64 t.k, .int .i64 t.n, .slice a1 t.ks.length c1] 24)) (.cells #[.int .i64 t.n] 3)
        rw [size_alloc] at hh
        rw [addr_add, Nat.zero_add, cell_at hh]; simpa using hu
      clear b7
      go_enter Try.func58, Try.ntmps58
      go_wp2_with (first | (go_at_call 73; refine hIn.out.mono ?_; rintro e w2 ⟨rfl, hw⟩; rw [hw]; clear hw w2) | (at_builtin; refine wpList_append2 rfl _ _ 39 rfl B 3 j0 (.int .i64 0) 1 8 Try.underlying39 hj0 hy0 hy1 hy2 rfl (by decide) _ s.length (s.map (.int .i64)) rfl FS7.out.own ⟨w.heap.size + 1, 0, none⟩ 1 1 [.int .i64 t.n] rfl rfl hY.out (by simp [Value.oneCell']) (by unfold maxLen; omega) (by omega) (Nat.le_trans HB.out FS7.out.ev.size) ?_; intro v' w9 hown' hgrow hfresh; obtain ⟨p9, c9, rfl⟩ := own_form hown'; have FS9 : Hid (Fst w B _ _ (.slice p9 (s.length + 1) c9) (s ++ [t.n]) w9) := FS7.out.next (by rw [List.length_append, List.map_append]; exact hown') (Ev.app hgrow hfresh); clear hown' hgrow hfresh))
      go_loopw [7, 2] (fun v u wr => ∃ (k : Nat) (pv : Option Addr) (cv : Nat) (s' : List Int), v = .int .i64 k ∧ u = .slice pv s'.length cv ∧ k ≤ t.ks.length ∧ Hid (Tp.found kind t s = Tp.foundL kind (t.ks.drop k) s') ∧ Hid (s'.length + Tp.cntL (t.ks.drop k) ≤ 1048576) ∧ Fst w B [.int .i64 t.k, .int .i64 t.n, .slice a1 t.ks.length c1] (.slice p0 s.length q0) (.slice pv s'.length cv) s' wr) (fun v _ _ => t.ks.length - (intOf v).toNat)
      case atStart => exact ⟨0, p9, c9, s ++ [t.n], rfl, by rw [List.length_append]; rfl, Nat.zero_le _, HF0, by show _ ≤ _; have := HC.out; rw [List.drop_zero, List.length_append]; simp only [List.length_singleton]; omega, by rw [List.length_append]; exact FS9.out⟩
      case round =>
        obtain ⟨k, pv, cv, s', rfl, rfl, hk, HF, HZ, FS⟩ := hrel
        have y0 := FS.b.cell
        by_cases hlt : k < t.ks.length
        · obtain ⟨g, o, rfl⟩ : ∃ b o, a1 = some ⟨b, o, none⟩ := by
            rcases HL.out with ⟨b, o, c, hv, -⟩ | ⟨h0, -⟩
            · injection hv with e1 e2 e3; exact ⟨b, o, e1⟩
            · rw [h0] at hlt; exact absurd hlt (Nat.not_lt_zero _)
          obtain ⟨x, hxk⟩ : ∃ x, t.ks[k]? = some x := ⟨_, List.getElem?_eq_getElem hlt⟩
          have HLr : TAtL wr (fun b => b < B) n (.slice (some ⟨g, o, none⟩) t.ks.length c1) t.ks := HL.out.move (fun b o u hb hu => (FS.ev.cell (p := ⟨b, o, none⟩) (World.block_lt_of_cell? w _ hu) (fun e => by have h1 := (HO.out.lt b e).1; omega)).trans hu) (fun _ h => h)
          obtain ⟨vx, tx, u0, u1, u2, -, -⟩ := HLr.elem hxk
          obtain ⟨ax, cx, ex⟩ := tx.form
          simp only [List.cons.injEq, and_true, true_and] at ex
          subst ex
          have HQ : Hid (Calls Try.prog 58 #[.agg #[.int .i64 x.k, .int .i64 x.n, .slice ax x.ks.length cx], .int .i64 kind, .slice pv s'.length cv] wr fun e w' => ∃ lv', e = .returned lv' ∧ w'.ownsRow B 3 1 lv' (Tp.found kind x s').length ((Tp.found kind x s').map (.int .i64)) ∧ Ev (Ow (.slice pv s'.length cv)) wr (Ow lv') w') := ih wr _ x _ s' tx (Nat.le_trans HB.out FS.ev.size) FS.own (by have h := HZ.out; rw [Tp.cntL_dropB hxk] at h; omega)
          have HF2 : Hid (Tp.found kind t s = Tp.foundL kind (t.ks.drop (k + 1)) (Tp.found kind x s')) := HF.out.trans (Tp.foundL_at hxk s')
          have HZ2 : Hid ((Tp.found kind x s').length + Tp.cntL (t.ks.drop (k + 1)) ≤ 1048576) := by show _ ≤ _; have h := HZ.out; rw [Tp.cntL_dropB hxk] at h; have := Tp.found_lenD kind x s'; omega
          have FS2 : Hid (Fst w B _ _ (.slice pv s'.length cv) s' wr) := FS
          clear HF HZ FS HLr hxk tx ih HL
          go_wp2_with (go_at_call 58; refine HQ.out.mono ?_; rintro e w3 ⟨lv3, rfl, ho3, he3⟩; obtain ⟨p3, c3, rfl⟩ := own_form ho3; have FS3 : Hid (Fst w B _ _ (.slice p3 _ c3) _ w3) := FS2.out.next ho3 he3; clear ho3 he3)
          go_roundw
          case rel => exact ⟨k + 1, p3, c3, _, by go_num, rfl, by omega, HF2, HZ2, FS3.out⟩
          case measure => simp [intOf]; omega
        · have HX : Hid (Tp.found kind t s = s') := by show _ = _; rw [HF.out, List.drop_eq_nil_of_le (by omega)]; exact Tp.foundL_nil kind s'
          have FS2 : Hid (Fst w B _ _ (.slice pv s'.length cv) s' wr) := FS
          clear HF HZ ih HL FS
          go_wp2
          go_ret
          exact ⟨_, rfl, by rw [HX.out]; exact FS2.out.own, FS2.out.ev⟩
  · have hk2 : (t.k == kind) = false := by rw [beq_eq_false_iff_ne]; exact hk
    rw [if_neg hk] at hf0
    have HF0 : Hid (Tp.found kind t s = Tp.foundL kind t.ks s) := hf0
    clear hk hIn hf0
    go_enter Try.func58, Try.ntmps58
    go_wp2
    go_loopw [7, 2] (fun v u wr => ∃ (k : Nat) (pv : Option Addr) (cv : Nat) (s' : List Int), v = .int .i64 k ∧ u = .slice pv s'.length cv ∧ k ≤ t.ks.length ∧ Hid (Tp.found kind t s = Tp.foundL kind (t.ks.drop k) s') ∧ Hid (s'.length + Tp.cntL (t.ks.drop k) ≤ 1048576) ∧ Fst w B [.int .i64 t.k, .int .i64 t.n, .slice a1 t.ks.length c1] (.slice p0 s.length q0) (.slice pv s'.length cv) s' wr) (fun v _ _ => t.ks.length - (intOf v).toNat)
    case atStart => exact ⟨0, p0, q0, s, rfl, rfl, Nat.zero_le _, HF0, by show _ ≤ _; have := HC.out; rw [List.drop_zero]; omega, FS0.out⟩
    case round =>
      obtain ⟨k, pv, cv, s', rfl, rfl, hk, HF, HZ, FS⟩ := hrel
      have y0 := FS.b.cell
      by_cases hlt : k < t.ks.length
      · obtain ⟨g, o, rfl⟩ : ∃ b o, a1 = some ⟨b, o, none⟩ := by
          rcases HL.out with ⟨b, o, c, hv, -⟩ | ⟨h0, -⟩
          · injection hv with e1 e2 e3; exact ⟨b, o, e1⟩
          · rw [h0] at hlt; exact absurd hlt (Nat.not_lt_zero _)
        obtain ⟨x, hxk⟩ : ∃ x, t.ks[k]? = some x := ⟨_, List.getElem?_eq_getElem hlt⟩
        have HLr : TAtL wr (fun b => b < B) n (.slice (some ⟨g, o, none⟩) t.ks.length c1) t.ks := HL.out.move (fun b o u hb hu => (FS.ev.cell (p := ⟨b, o, none⟩) (World.block_lt_of_cell? w _ hu) (fun e => by have h1 := (HO.out.lt b e).1; omega)).trans hu) (fun _ h => h)
        obtain ⟨vx, tx, u0, u1, u2, -, -⟩ := HLr.elem hxk
        obtain ⟨ax, cx, ex⟩ := tx.form
        simp only [List.cons.injEq, and_true, true_and] at ex
        subst ex
        have HQ : Hid (Calls Try.prog 58 #[.agg #[.int .i64 x.k, .int .i64 x.n, .slice ax x.ks.length cx], .int .i64 kind, .slice pv s'.length cv] wr fun e w' => ∃ lv', e = .returned lv' ∧ w'.ownsRow B 3 1 lv' (Tp.found kind x s').length ((Tp.found kind x s').map (.int .i64)) ∧ Ev (Ow (.slice pv s'.length cv)) wr (Ow lv') w') := ih wr _ x _ s' tx (Nat.le_trans HB.out FS.ev.size) FS.own (by have h := HZ.out; rw [Tp.cntL_dropB hxk] at h; omega)
        have HF2 : Hid (Tp.found kind t s = Tp.foundL kind (t.ks.drop (k + 1)) (Tp.found kind x s')) := HF.out.trans (Tp.foundL_at hxk s')
        have HZ2 : Hid ((Tp.found kind x s').length + Tp.cntL (t.ks.drop (k + 1)) ≤ 1048576) := by show _ ≤ _; have h := HZ.out; rw [Tp.cntL_dropB hxk] at h; have := Tp.found_lenD kind x s'; omega
        have FS2 : Hid (Fst w B _ _ (.slice pv s'.length cv) s' wr) := FS
        clear HF HZ FS HLr hxk tx ih HL
        go_wp2_with (go_at_call 58; refine HQ.out.mono ?_; rintro e w3 ⟨lv3, rfl, ho3, he3⟩; obtain ⟨p3, c3, rfl⟩ := own_form ho3; have FS3 : Hid (Fst w B _ _ (.slice p3 _ c3) _ w3) := FS2.out.next ho3 he3; clear ho3 he3)
        go_roundw
        case rel => exact ⟨k + 1, p3, c3, _, by go_num, rfl, by omega, HF2, HZ2, FS3.out⟩
        case measure => simp [intOf]; omega
      · have HX : Hid (Tp.found kind t s = s') := by show _ = _; rw [HF.out, List.drop_eq_nil_of_le (by omega)]; exact Tp.foundL_nil kind s'
        have FS2 : Hid (Fst w B _ _ (.slice pv s'.length cv) s' wr) := FS
        clear HF HZ ih HL FS
        go_wp2
        go_ret
        exact ⟨_, rfl, by rw [HX.out]; exact FS2.out.own, FS2.out.ev⟩
theorem found_any (kind : Int) (B : Nat) : ∀ n, FoundOf kind B n
  | 0 => fun w vs t lv s h _ _ _ => h.elim
  | n + 1 => found_step kind B n (found_any kind B n)

end Go.Proofs.Ythijckdhndbdoaa

namespace Go.Proofs.Ythijckdhndbdoaa

open Go.RowKit
set_option linter.unusedVariables false
set_option linter.unusedSimpArgs false

theorem found_top (w : World) (n : Nat) (vs : List Value) (t : Tp) (kind : Int) (hT : TAt w Any n vs t) (hc : t.cnt ≤ 1048576) : Calls Try.prog 58 #[.agg vs.toArray, .int .i64 kind, .slice none 0 0] w fun e w' => ∃ p c, e = .returned (.slice p (Tp.found kind t []).length c) ∧ Ls w' Any (.slice p (Tp.found kind t []).length c) (Tp.found kind t []) ∧ Below w.heap.size w w' := by
  refine (found_any kind w.heap.size n w vs t (.slice none 0 0) [] (TAt.old hT) (Nat.le_refl _) (World.ownsRow_nil _ _ _ _) (by rw [List.length_nil]; omega)).mono ?_
  rintro e w' ⟨lv', rfl, h1, h2⟩
  obtain ⟨p, c, rfl⟩ := own_form h1
  exact ⟨p, c, rfl, Ls.of_own h1, h2.below (Nat.le_refl _) (fun b hb => by cases hb)⟩





set_option maxRecDepth 100000 in
theorem refGens_any (w : World) (n : Nat) (vs : List Value) (t : Tp) (hT : TAt w Any n vs t) (hc : t.cnt ≤ 1048576) : Calls Try.prog 36 #[.agg vs.toArray] w fun e w' => ∃ p c, e = .returned (.slice p (Tp.found 8 t []).length c) ∧ Ls w' Any (.slice p (Tp.found 8 t []).length c) (Tp.found 8 t []) ∧ Below w.heap.size w w' := by
  have hq : Hid (∀ o, Calls Try.prog 58 #[.agg vs.toArray, .int .i64 8, .slice none 0 0] (w.alloc o) fun e w' => ∃ p c, e = .returned (.slice p (Tp.found 8 t []).length c) ∧ Ls w' Any (.slice p (Tp.found 8 t []).length c) (Tp.found 8 t []) ∧ Below w.heap.size w w') := fun o => (found_top _ n vs t 8 (hT.below (bl_alloc (Below.refl _ _) _)) hc).mono fun e w' ⟨p, c, h1, h2, h3⟩ => ⟨p, c, h1, h2, bl_tr (bl_alloc (Below.refl _ _) _) h3⟩
  obtain ⟨a, c, rfl⟩ := hT.form
  clear hT hc
  go_enter Try.func36, Try.ntmps36
  go_wp2_with (go_at_call 58; refine (hq.out _).mono ?_; rintro e w2 ⟨p2, c2, rfl, h2, hb2⟩; have H2 : Hid (Ls w2 Any _ _) := h2; clear h2)
  go_ret
  exact ⟨_, _, rfl, H2.out, hb2⟩

mutual
theorem Tp.spares_st (l : List Int) : ∀ t : Tp, Tp.spares l t = true ↔ ∀ k ∈ l, ∀ x, ¬ Tp.st k x t
  | .mk k n ks => by
    rw [Tp.spares, Bool.and_eq_true, Tp.sparesL_st l ks]
    constructor
    · rintro ⟨h1, h2⟩ j hj x hx
      rw [Tp.st] at hx
      rcases hx with hx | hx
      · rw [Bool.not_eq_true', decide_eq_false_iff_not] at h1
        exact h1 (by rw [hx.1]; exact hj)
      · exact h2 j hj x hx
    · intro h
      refine ⟨?_, fun j hj x hx => h j hj x (by rw [Tp.st]; exact .inr hx)⟩
      rw [Bool.not_eq_true', decide_eq_false_iff_not]
      exact fun hk => h k hk n (by rw [Tp.st]; exact .inl ⟨rfl, rfl⟩)
theorem Tp.sparesL_st (l : List Int) : ∀ ts : List Tp, Tp.sparesL l ts = true ↔ ∀ k ∈ l, ∀ x, ¬ Tp.stL k x ts
  | [] => by simp [Tp.sparesL, Tp.stL]
  | t :: r => by
    rw [Tp.sparesL, Bool.and_eq_true, Tp.spares_st l t, Tp.sparesL_st l r]
    constructor
    · rintro ⟨h1, h2⟩ j hj x hx
      rw [Tp.stL] at hx
      rcases hx with hx | hx
      · exact h1 j hj x hx
      · exact h2 j hj x hx
    · intro h
      exact ⟨fun j hj x hx => h j hj x (by rw [Tp.stL]; exact .inl hx), fun j hj x hx => h j hj x (by rw [Tp.stL]; exact .inr hx)⟩
end
theorem Tp.found_nil (k : Int) (t : Tp) : Tp.found k t [] = [] ↔ ∀ x, ¬ Tp.st k x t := by
  rw [List.eq_nil_iff_forall_not_mem]
  constructor
  · intro h x hx; exact h x ((Tp.mem_found k x t []).2 (.inr hx))
  · intro h x hx
    rcases (Tp.mem_found k x t []).1 hx with h1 | h1
    · cases h1
    · exact h x h1
theorem Tp.closed_eq (t : Tp) : Tp.spares [7, 8] t = ((((Tp.found 7 t []).length : Int) == 0) && (((Tp.found 8 t []).length : Int) == 0)) := by
  rw [Bool.eq_iff_iff, Tp.spares_st, Bool.and_eq_true, beq_iff_eq, beq_iff_eq]
  constructor
  · intro h
    have h7 := (Tp.found_nil 7 t).2 (h 7 (by simp))
    have h8 := (Tp.found_nil 8 t).2 (h 8 (by simp))
    rw [h7, h8]; exact ⟨rfl, rfl⟩
  · rintro ⟨h7, h8⟩ k hk
    have e7 := (Tp.found_nil 7 t).1 (List.eq_nil_of_length_eq_zero (by omega))
    have e8 := (Tp.found_nil 8 t).1 (List.eq_nil_of_length_eq_zero (by omega))
    simp at hk
    rcases hk with rfl | rfl
    · exact e7
    · exact e8



end Go.Proofs.Ythijckdhndbdoaa

namespace Go.Proofs.Ythijckdhndbdoaa

open Go.RowKit
set_option linter.unusedVariables false
set_option linter.unusedSimpArgs false

set_option maxHeartbeats 1000000 in
set_option maxRecDepth 100000 in
theorem refRightScheme_any (w : World) (n : Nat) (g : Int) (vs : List Value) (t : Tp) (hT : TAt w Any n vs t) (hc : t.cnt ≤ 1048576) : Calls Try.prog 34 #[.agg (.int .i64 g :: vs).toArray] w fun e w' => e = .returned (.bool (Tp.rightS g t)) ∧ Below w.heap.size w w' := by
  have hR : Hid (∀ o, Calls Try.prog 57 #[.agg vs.toArray] (w.alloc o) fun e w' => e = .returned (.bool t.right) ∧ Below (w.alloc o).heap.size (w.alloc o) w') := fun o => refRight_any n _ vs t (hT.below (bl_alloc (Below.refl _ _) _))
  have hG : Hid (∀ wz, Below w.heap.size w wz → Calls Try.prog 36 #[.agg vs.toArray] wz fun e w' => ∃ p c, e = .returned (.slice p (Tp.found 8 t []).length c) ∧ Ls w' Any (.slice p (Tp.found 8 t []).length c) (Tp.found 8 t []) ∧ Below wz.heap.size wz w') := fun wz hz => refGens_any _ n vs t (hT.below hz) hc
  have hD : Hid (Tp.rightS g t = (t.right && (Tp.ups (Tp.found 8 t []) 0 && decide (((Tp.found 8 t []).length : Int) = g)))) := rfl
  obtain ⟨a, c, rfl⟩ := hT.form
  have HB : Hid (∀ o, Below w.heap.size w (w.alloc o)) := fun o => bl_alloc (Below.refl _ _) o
  generalize Tp.rightS g t = r at hD
  clear hT hc
  cases hr : t.right with
  | false =>
    rw [hr] at hR hD
    have hD' := hD.out
    rw [Bool.false_and] at hD'
    subst hD'
    go_enter Try.func34, Try.ntmps34
    go_wp2_with (go_at_call 57; refine (hR.out _).mono ?_; rintro e w2 ⟨rfl, hb2⟩)
    go_ret
    exact ⟨rfl, bl_tr (HB.out _) hb2⟩
  | true =>
    rw [hr] at hR hD
    have HD : Hid (r = (Tp.ups (Tp.found 8 t []) 0 && decide (((Tp.found 8 t []).length : Int) = g))) := by show r = _; rw [hD.out, Bool.true_and]
    clear hD hr
    generalize Tp.found 8 t [] = l at hG HD
    by_cases hg : (l.length : Int) = g
    · have HE : Hid (r = Tp.ups l 0) := by show r = _; rw [HD.out, decide_eq_true hg, Bool.and_true]
      have hq : ((l.length : Int) == g) = true := by rw [beq_iff_eq]; exact hg
      clear HD hg
      go_enter Try.func34, Try.ntmps34
      go_wp2_with (first | (go_at_call 57; refine (hR.out _).mono ?_; rintro e w2 ⟨rfl, hb2⟩; have x0 := hb2.cell (p := ⟨w.heap.size, 0, none⟩) (by simp); have x1 := hb2.cell (p := ⟨w.heap.size, 1, none⟩) (by simp); have x2 := hb2.cell (p := ⟨w.heap.size, 2, none⟩) (by simp); have x3 := hb2.cell (p := ⟨w.heap.size, 3, none⟩) (by simp); simp [go_sem] at x0 x1 x2 x3) | (go_at_call 36; refine (hG.out _ (bl_tr (HB.out _) hb2)).mono ?_; rintro e w3 ⟨p3, c3, rfl, hl3, hb3⟩; have hm3 : l.length ≤ maxLen := (let ⟨_, _, _, hm⟩ := hl3.form; hm); have y0 := hb3.cell (p := ⟨w.heap.size, 0, none⟩) (World.block_lt_of_cell? _ _ x0); rw [x0] at y0; have HL : Hid (Ls w3 Any _ l) := hl3; clear hl3))
      unfold maxLen at hm3
      have HBB : Hid (Below w.heap.size w w3) := bl_tr (bl_tr (HB.out _) hb2) hb3
      clear hR hG HB hb2 hb3 x0 x1 x2 x3
      go_loopw [4] (fun v wr => ∃ k : Nat, v = .int .i64 k ∧ k ≤ l.length ∧ Hid (r = Tp.ups (l.drop k) k) ∧ wr = w3) (fun v _ => l.length - (intOf v).toNat)
      case atStart => exact ⟨0, rfl, Nat.zero_le _, HE, rfl⟩
      case round =>
        obtain ⟨k, rfl, hk, hH, rfl⟩ := hrel
        by_cases hlt : k < l.length
        · obtain ⟨b, o, c', hv, -, -, -, hl⟩ := HL.out.resolve_right (fun h => by rw [h.1] at hlt; exact absurd hlt (Nat.not_lt_zero _))
          injection hv with e1 e2 e3
          subst e1
          obtain ⟨x, hx⟩ : ∃ x, l[k]? = some x := ⟨_, List.getElem?_eq_getElem hlt⟩
          have hc := hl k x hx
          have HX := hH.out
          rw [Tp.ups_at hx] at HX
          clear hl hx hH e2 e3
          by_cases he : x = k
          · rw [decide_eq_true he, Bool.true_and] at HX
            have HY := hid HX
            clear HX
            have ht : (x == (k : Int)) = true := by rw [he]; simp
            clear he
            go_wp2
            go_roundw
            case rel => exact ⟨k + 1, by go_num, by omega, HY, by trivial⟩
            case measure => simp [intOf]; omega
          · rw [decide_eq_false he, Bool.false_and] at HX
            subst HX
            have ht : (x == (k : Int)) = false := by simpa using he
            clear he
            go_wp2
            go_ret
            exact ⟨rfl, HBB.out⟩
        · have HX := hH.out
          rw [List.drop_eq_nil_of_le (by omega), Tp.ups] at HX
          have HY := hid HX
          clear HX hH
          go_wp2
          go_ret
          rw [HY.out]
          exact ⟨rfl, HBB.out⟩
    · have HE : r = false := by rw [HD.out, decide_eq_false hg, Bool.and_false]
      have hq : ((l.length : Int) == g) = false := by rw [beq_eq_false_iff_ne]; exact hg
      subst HE
      clear HD hg
      go_enter Try.func34, Try.ntmps34
      go_wp2_with (first | (go_at_call 57; refine (hR.out _).mono ?_; rintro e w2 ⟨rfl, hb2⟩; have x0 := hb2.cell (p := ⟨w.heap.size, 0, none⟩) (by simp); have x1 := hb2.cell (p := ⟨w.heap.size, 1, none⟩) (by simp); have x2 := hb2.cell (p := ⟨w.heap.size, 2, none⟩) (by simp); have x3 := hb2.cell (p := ⟨w.heap.size, 3, none⟩) (by simp); simp [go_sem] at x0 x1 x2 x3) | (go_at_call 36; refine (hG.out _ (bl_tr (HB.out _) hb2)).mono ?_; rintro e w3 ⟨p3, c3, rfl, hl3, hb3⟩; have hm3 : l.length ≤ maxLen := (let ⟨_, _, _, hm⟩ := hl3.form; hm); have y0 := hb3.cell (p := ⟨w.heap.size, 0, none⟩) (World.block_lt_of_cell? _ _ x0); rw [x0] at y0; have HL : Hid (Ls w3 Any _ l) := hl3; clear hl3))
      unfold maxLen at hm3
      have HBB : Hid (Below w.heap.size w w3) := bl_tr (bl_tr (HB.out _) hb2) hb3
      clear hR hG HB
      go_ret
      exact ⟨rfl, HBB.out⟩

end Go.Proofs.Ythijckdhndbdoaa

namespace Go.Proofs.Ythijckdhndbdoaa

open Go.RowKit
set_option linter.unusedVariables false
set_option linter.unusedSimpArgs false

/-- A slice of types whose elements lie below B. -/
def TLx (w : World) (B n : Nat) (v : Value) (l : List Tp) : Prop := TRow w Any (TAt w (fun b => b < B) n) v l
theorem TLx.below {w w' : World} {B n : Nat} {v : Value} {l : List Tp} (h : TLx w B n v l) (hb : Below w.heap.size w w') : TLx w' B n v l := TRow.move h (Keeps.of_below hb) (fun _ h => h) (fun _ _ h => h.below hb)
theorem TLx.form {w : World} {B n : Nat} {v : Value} {l : List Tp} (h : TLx w B n v l) : ∃ a c, v = .slice a l.length c ∧ l.length ≤ maxLen := by
  rcases h with ⟨b, o, c, rfl, -, -, hm, -⟩ | ⟨rfl, p, c, rfl⟩
  · exact ⟨_, _, rfl, hm⟩
  · exact ⟨_, _, rfl, Nat.zero_le _⟩
theorem TLx.elem {w : World} {B n : Nat} {b o c m : Nat} {l : List Tp} (h : TLx w B n (.slice (some ⟨b, o, none⟩) m c) l) {i : Nat} {x : Tp} (hx : l[i]? = some x) : ∃ v, TAt w (fun b => b < B) n [.int .i64 x.k, .int .i64 x.n, v] x ∧ w.cell? ⟨b, o + i * 3, none⟩ = some (.int .i64 x.k) ∧ w.cell? ⟨b, o + i * 3 + 1, none⟩ = some (.int .i64 x.n) ∧ w.cell? ⟨b, o + i * 3 + 2, none⟩ = some v ∧ True ∧ b < w.heap.size := by
  rcases h with ⟨b', o', c', hv, hb, hl, hm, hc⟩ | ⟨rfl, -⟩
  · obtain ⟨rfl, rfl⟩ : b = b' ∧ o = o' := by injection hv with e1 e2 e3; injection e1 with e1; injection e1 with e1 e2; exact ⟨e1, e2⟩
    obtain ⟨vs, h1, h2⟩ := hc i x hx
    obtain ⟨a, c2, e⟩ := h2.form
    subst e
    exact ⟨_, h2, h1 0 _ rfl, h1 1 _ rfl, h1 2 _ rfl, trivial, World.block_lt_of_cell? w _ (h1 0 _ rfl)⟩
  · simp at hx

def PutOf12 (kind : Int) (fv tv : Value) (fr : List Int) (tos : List Tp) (m B0 n : Nat) : Prop := ∀ (w : World) (vs : List Value) (t : Tp), TAt w Any n vs t → Ls w Any fv fr → TLx w B0 m tv tos → B0 ≤ w.heap.size → (Tp.put kind fr tos t).cnt ≤ 1048576 →
  Calls Try.prog 35 #[.agg vs.toArray, .int .i64 kind, fv, tv] w fun e w' => ∃ vs' n', e = .returned (.agg vs'.toArray) ∧ TAt w' (fun b => b < B0 ∨ w.heap.size ≤ b) n' vs' (Tp.put kind fr tos t) ∧ Below w.heap.size w w'

theorem Pst.start12 {w W2 wr : World} (B0 : Nat) (t : Tp) (pm : Tp → Tp) (v : Value) (h0 : Below w.heap.size w W2) (hs : W2.heap.size = w.heap.size + 2) (tb : Arr W2 w.heap.size 24 [.int .i64 t.k, .int .i64 t.n, v]) (rs : Arr W2 (w.heap.size + 1) 24 [.int .i64 0, .int .i64 0, .slice none 0 0]) (hb : Below W2.heap.size W2 wr) (hz : wr.heap.size = W2.heap.size) : Pst w B0 t pm v 0 0 (.slice none 0 0) [] (wr.alloc (.cells #[.int .i64 t.k, .int .i64 t.n, .slice none 0 0] 24)) := by
  refine ⟨bl_alloc (bl_tr h0 hb) _, by rw [size_alloc]; omega, (tb.stays hb).stays (bl_alloc (Below.refl _ _) _), (rs.stays hb).stays (bl_alloc (Below.refl _ _) _), ⟨?_⟩, World.ownsRow_nil _ _ _ _, fun i x hi => absurd hi (Nat.not_lt_zero _)⟩
  have := heap_alloc_at wr (.cells #[.int .i64 t.k, .int .i64 t.n, .slice none 0 0] 24)
  rw [show wr.heap.size = w.heap.size + 2 by omega] at this
  exact this
theorem Pst.fin12 {w : World} {B0 : Nat} {t : Tp} {pm : Tp → Tp} {v : Value} {N : Nat} {ov : Value} {xs : List Value} {wr W : World} (h : Pst w B0 t pm v t.ks.length N ov xs wr) (hB : B0 ≤ w.heap.size) (hk : Keeps (fun b => b < B0 ∨ w.heap.size + 3 ≤ b) wr W) (h64 : R64 t.k ∧ R64 t.n) (hl : t.ks.length ≤ 1048576) :
    TAt W (fun b => b < B0 ∨ w.heap.size ≤ b) (N + 1) [.int .i64 t.k, .int .i64 t.n, ov] (.mk t.k t.n (t.ks.map pm)) := by
  refine ⟨_, rfl, h64.1, h64.2, (show TRow _ _ _ _ (t.ks.map pm) from ?_)⟩
  rcases h.own.2 with ⟨rfl, h0⟩ | ⟨g, cap, cur, rfl, hg, hh, hc, hm, hs, htk⟩
  · exact .inr ⟨by rw [List.eq_nil_of_length_eq_zero h0]; rfl, _, _, rfl⟩
  · refine .inl ⟨g, 0, cap, by rw [List.length_map], .inr (by omega), by rw [List.length_map]; exact hc, by rw [List.length_map]; unfold maxLen; omega, fun i y hy => ?_⟩
    rw [List.getElem?_map] at hy
    obtain ⟨x, hx, rfl⟩ := Option.map_eq_some_iff.1 hy
    obtain ⟨a, c, h1, h2⟩ := h.el i x (List.getElem?_eq_some_iff.1 hx).1 hx
    refine ⟨_, fun j u hu => ?_, h1.move (fun b o u hb hu => hk b o u hb.1 hu) (fun b hb => hb.1.elim .inl (fun h => .inr (by omega)))⟩
    have := h2 j u hu
    rw [← htk, List.getElem?_take] at this
    split at this
    · refine hk g _ _ (.inr hg) ?_
      rw [cell_at hh, Nat.zero_add]
      simpa using this
    · cases this

set_option maxHeartbeats 4000000 in
set_option maxRecDepth 104857600 in
theorem put_step12 (kind : Int) (fv tv : Value) (fr : List Int) (tos : List Tp) (hlen : fr.length = tos.length) (m B0 n : Nat) (ih : PutOf12 kind fv tv fr tos m B0 n) : PutOf12 kind fv tv fr tos m B0 (n + 1) := by
  intro w vs t hT hf ht hB hcnt
  have HLN : Hid (fr.length = tos.length) := hlen
  clear hlen
  obtain ⟨v, rfl, hk64, hn64, hL⟩ := hT.open_
  obtain ⟨a1, c1, rfl, hm⟩ := hL.form
  unfold maxLen at hm
  have H64 : Hid (R64 t.k ∧ R64 t.n) := ⟨hk64, hn64⟩
  have HF : Hid (Ls w Any fv fr) := hf
  have HTo : Hid (TLx w B0 m tv tos) := ht
  have HL : Hid (TAtL w Any n (.slice a1 t.ks.length c1) t.ks) := hL
  obtain ⟨fa, fc, rfl, -⟩ := hf.form
  obtain ⟨ta, tc, rfl, htm⟩ := ht.form
  unfold maxLen at htm
  have XB : Hid (Below w.heap.size w ((w.alloc (.cells #[.int .i64 t.k, .int .i64 t.n, .slice a1 t.ks.length c1] 24)).alloc (.cells #[.int .i64 0, .int .i64 0, .slice none 0 0] 24))) := bl_alloc (bl_alloc (Below.refl _ _) _) _
  clear hT hL hf ht hk64 hn64
  cases hb : Tp.by kind fr tos t.k t.n with
  | some u =>
    rw [Tp.put_some hb]
    obtain ⟨hk, i, hi, hu⟩ := Tp.by_some hb
    have HI := hid hi
    have hil : i < tos.length := (List.getElem?_eq_some_iff.1 hu).1
    obtain ⟨tb, to', rfl⟩ : ∃ b o, ta = some ⟨b, o, none⟩ := by
      rcases HTo.out with ⟨b, o, c, hv, -⟩ | ⟨h0, -⟩
      · injection hv with e1 e2 e3; exact ⟨b, o, e1⟩
      · rw [h0] at hil; exact absurd hil (Nat.not_lt_zero _)
    obtain ⟨vu, tu, q0, q1, q2, hbB, hbw⟩ := HTo.out.elem hu
    obtain ⟨ax, cx, ex⟩ := tu.form
    simp only [List.cons.injEq, and_true, true_and] at ex
    subst ex
    have HTu : Hid (TAt w (fun b => b < B0) m _ u) := tu
    have u0 := (XB.out.cell (p := ⟨tb, to' + i * 3, none⟩) hbw).trans q0
    have u1 := (XB.out.cell (p := ⟨tb, to' + i * 3 + 1, none⟩) hbw).trans q1
    have u2 := (XB.out.cell (p := ⟨tb, to' + i * 3 + 2, none⟩) hbw).trans q2
    have hk2 : (t.k == kind) = true := by rw [beq_iff_eq]; exact hk
    have hne : ¬ tb = w.heap.size + 1 := by omega
    have q0 := hid q0
    have q1 := hid q1
    have q2 := hid q2
    clear hb hk hi hu tu ih HL hcnt u0 u1 u2
    go_enter Try.func35, Try.ntmps35
    have A0 : Hid (Arr ((w.alloc (.cells #[.int .i64 t.k, .int .i64 t.n, .slice a1 t.ks.length c1] 24)).alloc (.cells #[.int .i64 0, .int .i64 0, .slice none 0 0] 24)) w.heap.size 24 [.int .i64 t.k, .int .i64 t.n, .slice a1 t.ks.length c1]) := Arr.stays ⟨heap_alloc_at _ _⟩ (bl_alloc (Below.refl _ _) _)
    have A1 : Hid (Arr ((w.alloc (.cells #[.int .i64 t.k, .int .i64 t.n, .slice a1 t.ks.length c1] 24)).alloc (.cells #[.int .i64 0, .int .i64 0, .slice none 0 0] 24)) (w.heap.size + 1) 24 [.int .i64 0, .int .i64 0, .slice none 0 0]) := ⟨by have := heap_alloc_at (w.alloc (.cells #[.int .i64 t.k, .int .i64 t.n, .slice a1 t.ks.length c1] 24)) (.cells #[.int .i64 0, .int .i64 0, .slice none 0 0] 24); rw [size_alloc] at this; exact this⟩
    have SZ : Hid (((w.alloc (.cells #[.int .i64 t.k, .int .i64 t.n, .slice a1 t.ks.length c1] 24)).alloc (.cells #[.int .i64 0, .int .i64 0, .slice none 0 0] 24)).heap.size = w.heap.size + 2) := by show _ = _; rw [size_alloc, size_alloc]
    go_wp2
    generalize ((w.alloc (.cells #[.int .i64 t.k, .int .i64 t.n, .slice a1 t.ks.length c1] 24)).alloc (.cells #[.int .i64 0, .int .i64 0, .slice none 0 0] 24)) = W2 at XB A0 A1 SZ ⊢
    go_loopw [9] (fun v wr => ∃ k : Nat, v = .int .i64 k ∧ k ≤ fr.length ∧ Hid (Tp.idx t.n fr 0 = Tp.idx t.n (fr.drop k) k) ∧ Hid (Below W2.heap.size W2 wr ∧ wr.heap.size = W2.heap.size)) (fun v _ => fr.length - (intOf v).toNat)
    case atStart => exact ⟨0, rfl, Nat.zero_le _, rfl, ⟨Below.refl _ _, rfl⟩⟩
    case round =>
      obtain ⟨k, rfl, hk, hH, hD⟩ := hrel
      have hln := HLN.out
      have b0 := (A0.out.stays hD.out.1).cell
      have b1 := (A1.out.stays hD.out.1).cell
      have b2 := (A1.out.stays hD.out.1).frozen
      by_cases hlt : k < fr.length
      · obtain ⟨fb, fo, fc', hv, -, -, -, hl⟩ := HF.out.resolve_right (fun h => by rw [h.1] at hlt; exact absurd hlt (Nat.not_lt_zero _))
        injection hv with e1 e2 e3
        subst e1
        obtain ⟨x, hx⟩ : ∃ x, fr[k]? = some x := ⟨_, List.getElem?_eq_getElem hlt⟩
        have hc := ((bl_tr XB.out hD.out.1).cell (p := ⟨fb, fo + k, none⟩) (World.block_lt_of_cell? _ _ (hl k x hx))).trans (hl k x hx)
        have HX := hH.out
        rw [Tp.idx_at hx] at HX
        clear hl hx hH e2 e3
        by_cases he : x = t.n
        · rw [if_pos he] at HX
          have he2 : (x == t.n) = true := by rw [beq_iff_eq]; exact he
          obtain rfl : k = i := by have := HI.out; omega
          have u0' := (bl_tr XB.out hD.out.1).cell (p := ⟨tb, to' + k * 3, none⟩) hbw |>.trans q0.out
          have u1' := (bl_tr XB.out hD.out.1).cell (p := ⟨tb, to' + k * 3 + 1, none⟩) hbw |>.trans q1.out
          have u2' := (bl_tr XB.out hD.out.1).cell (p := ⟨tb, to' + k * 3 + 2, none⟩) hbw |>.trans q2.out
          clear HX he
          go_wp2
          go_quiet (fail)
          have HB9 := hid (bl_tr hD.out.1 (bl_drewN wr nq))
          have v0 : (wr.drewN nq).cell? ⟨tb, to' + k * 3, none⟩ = some (.int .i64 u.k) := u0'
          have v1 : (wr.drewN nq).cell? ⟨tb, to' + k * 3 + 1, none⟩ = some (.int .i64 u.n) := u1'
          have v2 : (wr.drewN nq).cell? ⟨tb, to' + k * 3 + 2, none⟩ = some (.slice ax u.ks.length cx) := u2'
          have r1 := (A1.out.stays HB9.out).cell
          have r2 := (A1.out.stays HB9.out).frozen
          clear b0 b1 b2 hc u0' u1' u2'
          generalize wr.drewN nq = w9 at HB9 v0 v1 v2 r1 r2 ⊢
          go_wp2
          refine bodyPost_ret (v := .agg #[.int .i64 u.k, .int .i64 u.n, .slice ax u.ks.length cx]) (by rw [results_cell1 (fn := Try.f35) (p := 8) (ty := 24) (by kernel_rfl)]; simp [go_sem, r1, r2]) rfl ?_
          have hbb := bl_tr XB.out HB9.out
          have hK : ∀ (W : World) j v, Keeps (fun b => b < B0) W (W.setCell ⟨w.heap.size + 1, j, none⟩ v) := fun W j v => Keeps.set (K := fun b => b < B0) (p := ⟨w.heap.size + 1, j, none⟩) (fun h => by have h : w.heap.size + 1 < B0 := h; omega) v
          have hs : ∀ (W : World) j v, Below w.heap.size w W → Below w.heap.size w (W.setCell ⟨w.heap.size + 1, j, none⟩ v) := fun W j v h => bl_set _ _ h (by show _ ≤ w.heap.size + 1; omega)
          exact ⟨[_, _, _], m, rfl, ((HTu.out.below hbb).move (((hK _ _ _).trans (hK _ _ _)).trans (hK _ _ _)) (fun b h => .inl h)), hs _ _ _ (hs _ _ _ (hs _ _ _ hbb))⟩
        · rw [if_neg he] at HX
          have HY := hid HX
          have he2 : (x == t.n) = false := by rw [beq_eq_false_iff_ne]; exact he
          clear HX he
          go_wp2
          go_quiet (fail)
          go_wp2
          go_roundw
          case rel => exact ⟨k + 1, by go_num, by omega, HY, ⟨bl_tr hD.out.1 (bl_drewN _ _), hD.out.2⟩⟩
          case measure => simp [intOf]; omega
      · have HX := hH.out
        rw [List.drop_eq_nil_of_le (by omega), Tp.idx] at HX
        have := HI.out
        omega
  | none =>
    have hbn := Tp.by_none HLN.out hb
    have HCN : Hid (Tp.cntL (t.ks.map (Tp.put kind fr tos)) + 1 ≤ 1048576) := by show _ ≤ _; rw [Tp.put_none hb, Tp.cnt] at hcnt; exact hcnt
    have hkl : t.ks.length ≤ 1048576 := by have h1 := Tp.cntL_len (t.ks.map (Tp.put kind fr tos)); rw [List.length_map] at h1; have := HCN.out; omega
    rw [Tp.put_none hb]
    have HB0 : Hid (B0 ≤ w.heap.size) := hB
    obtain ⟨i0, hi0, hz0, hz1, hz2⟩ := info_parts0 info_clT
    clear hb hcnt
    have A0 : Hid (Arr ((w.alloc (.cells #[.int .i64 t.k, .int .i64 t.n, .slice a1 t.ks.length c1] 24)).alloc (.cells #[.int .i64 0, .int .i64 0, .slice none 0 0] 24)) w.heap.size 24 [.int .i64 t.k, .int .i64 t.n, .slice a1 t.ks.length c1]) := Arr.stays ⟨heap_alloc_at _ _⟩ (bl_alloc (Below.refl _ _) _)
    have A1 : Hid (Arr ((w.alloc (.cells #[.int .i64 t.k, .int .i64 t.n, .slice a1 t.ks.length c1] 24)).alloc (.cells #[.int .i64 0, .int .i64 0, .slice none 0 0] 24)) (w.heap.size + 1) 24 [.int .i64 0, .int .i64 0, .slice none 0 0]) := ⟨by have := heap_alloc_at (w.alloc (.cells #[.int .i64 t.k, .int .i64 t.n, .slice a1 t.ks.length c1] 24)) (.cells #[.int .i64 0, .int .i64 0, .slice none 0 0] 24); rw [size_alloc] at this; exact this⟩
    have SZ : Hid (((w.alloc (.cells #[.int .i64 t.k, .int .i64 t.n, .slice a1 t.ks.length c1] 24)).alloc (.cells #[.int .i64 0, .int .i64 0, .slice none 0 0] 24)).heap.size = w.heap.size + 2) := by show _ = _; rw [size_alloc, size_alloc]
    go_enter Try.func35, Try.ntmps35
    go_upto_if 15 with fail
    generalize ((w.alloc (.cells #[.int .i64 t.k, .int .i64 t.n, .slice a1 t.ks.length c1] 24)).alloc (.cells #[.int .i64 0, .int .i64 0, .slice none 0 0] 24)) = W2 at XB A0 A1 SZ ⊢
    clear hB
    go_cut [9] from 16 to 32 (fun v9 wx => Hid (Below W2.heap.size W2 wx ∧ wx.heap.size = W2.heap.size))
    case first =>
      clear ih HL
      rcases hbn with hk | ⟨hk, hi⟩
      · have hk2 : (t.k == kind) = false := by rw [beq_eq_false_iff_ne]; exact hk
        clear hk
        go_wp2
        go_meet
        exact ⟨Below.refl _ _, rfl⟩
      · have hk2 : (t.k == kind) = true := by rw [beq_iff_eq]; exact hk
        have HI := hid hi
        clear hk hi
        go_wp2
        go_loopw [9] (fun v wr => ∃ k : Nat, v = .int .i64 k ∧ k ≤ fr.length ∧ Hid (Tp.idx t.n fr 0 = Tp.idx t.n (fr.drop k) k) ∧ Hid (Below W2.heap.size W2 wr ∧ wr.heap.size = W2.heap.size)) (fun v _ => fr.length - (intOf v).toNat)
        case atStart => exact ⟨0, rfl, Nat.zero_le _, rfl, ⟨Below.refl _ _, rfl⟩⟩
        case round =>
          obtain ⟨k, rfl, hk, hH, hD⟩ := hrel
          have hln := HLN.out
          have b0 := (A0.out.stays hD.out.1).cell
          have b1 := (A1.out.stays hD.out.1).cell
          have b2 := (A1.out.stays hD.out.1).frozen
          by_cases hlt : k < fr.length
          · obtain ⟨fb, fo, fc', hv, -, -, -, hl⟩ := HF.out.resolve_right (fun h => by rw [h.1] at hlt; exact absurd hlt (Nat.not_lt_zero _))
            injection hv with e1 e2 e3
            subst e1
            obtain ⟨x, hx⟩ : ∃ x, fr[k]? = some x := ⟨_, List.getElem?_eq_getElem hlt⟩
            have hc := ((bl_tr XB.out hD.out.1).cell (p := ⟨fb, fo + k, none⟩) (World.block_lt_of_cell? _ _ (hl k x hx))).trans (hl k x hx)
            have HX := hH.out
            rw [Tp.idx_at hx] at HX
            clear hl hx hH e2 e3
            by_cases he : x = t.n
            · rw [if_pos he] at HX
              have he2 : (x == t.n) = true := by rw [beq_iff_eq]; exact he
              have := HI.out
              omega
            · rw [if_neg he] at HX
              have HY := hid HX
              have he2 : (x == t.n) = false := by rw [beq_eq_false_iff_ne]; exact he
              clear HX he
              go_wp2
              go_quiet (fail)
              go_wp2
              go_roundw
              case rel => exact ⟨k + 1, by go_num, by omega, HY, ⟨bl_tr hD.out.1 (bl_drewN _ _), hD.out.2⟩⟩
              case measure => simp [intOf]; omega
          · have HX := hH.out
            rw [List.drop_eq_nil_of_le (by omega), Tp.idx] at HX
            clear HX hH
            go_wp2
            go_meet
            exact hD
    case rest =>
      have hD := hcut
      have X : Hid (Pst w B0 t (Tp.put kind fr tos) (.slice a1 t.ks.length c1) 0 0 (.slice none 0 0) [] (wc.alloc (.cells #[.int .i64 t.k, .int .i64 t.n, .slice none 0 0] 24))) := Pst.start12 B0 t _ _ XB.out SZ.out A0.out A1.out hD.out.1 hD.out.2
      have b0 := (A0.out.stays hD.out.1).cell
      clear hcut hbn
      go_wp2
      generalize (wc.alloc (.cells #[.int .i64 t.k, .int .i64 t.n, .slice none 0 0] 24)) = W1 at X ⊢
      rw [show wc.heap.size = w.heap.size + 2 from hD.out.2.trans SZ.out]
      clear b0 hD A0 A1 SZ XB

      go_loopw [11] (fun v wr => ∃ (k N : Nat) (ov : Value) (xs : List Value), v = .int .i64 k ∧ k ≤ t.ks.length ∧ Pst w B0 t (Tp.put kind fr tos) (.slice a1 t.ks.length c1) k N ov xs wr) (fun v _ => t.ks.length - (intOf v).toNat)
      case atStart => exact ⟨0, 0, _, _, rfl, Nat.zero_le _, X.out⟩
      case round =>
        obtain ⟨k, N, ov, xs, rfl, hk, hP0⟩ := hrel
        clear X
        obtain ⟨ap, cp, rfl⟩ := own_form hP0.own
        have p0 := hP0.tb.cell
        by_cases hlt : k < t.ks.length
        · skip
          obtain ⟨g, o, rfl⟩ : ∃ b o, a1 = some ⟨b, o, none⟩ := by
            rcases HL.out with ⟨b, o, c, hv, -⟩ | ⟨h0, -⟩
            · injection hv with e1 e2 e3; exact ⟨b, o, e1⟩
            · rw [h0] at hlt; exact absurd hlt (Nat.not_lt_zero _)
          obtain ⟨x, hxk⟩ : ∃ x, t.ks[k]? = some x := ⟨_, List.getElem?_eq_getElem hlt⟩
          have HX : Hid (t.ks[k]? = some x) := hxk
          obtain ⟨vx, tx, u0, u1, u2, -, hgl⟩ := HL.out.elem hxk
          obtain ⟨ax, cx, ex⟩ := tx.form
          simp only [List.cons.injEq, and_true, true_and] at ex
          subst ex
          have hcx : (Tp.put kind fr tos x).cnt ≤ 1048576 := by have h1 := Tp.cnt_le_cntL (List.mem_map.2 ⟨x, List.mem_of_getElem? hxk, rfl⟩ : (Tp.put kind fr tos x) ∈ t.ks.map (Tp.put kind fr tos)); have := HCN.out; omega
          have HQ : Hid (∀ wz, w.heap.size ≤ wz.heap.size → Below w.heap.size w wz → Calls Try.prog 35 #[.agg #[.int .i64 x.k, .int .i64 x.n, .slice ax x.ks.length cx], .int .i64 kind, .slice fa fr.length fc, .slice ta tos.length tc] wz fun e w' => ∃ vs' n', e = .returned (.agg vs'.toArray) ∧ TAt w' (fun b => b < B0 ∨ wz.heap.size ≤ b) n' vs' (Tp.put kind fr tos x) ∧ Below wz.heap.size wz w') := fun wz h1 hz => ih wz _ x (tx.below hz) (HF.out.below hz) (HTo.out.below hz) (Nat.le_trans HB0.out h1) hcx
          have hP : Hid (Pst w B0 t (Tp.put kind fr tos) (.slice (some ⟨g, o, none⟩) t.ks.length c1) k N (.slice ap k cp) xs wr.drew) := hP0.stays (Below.refl _ _).drew
          have U : Hid (w.cell? ⟨g, o + k * 3, none⟩ = some (.int .i64 x.k) ∧ w.cell? ⟨g, o + k * 3 + 1, none⟩ = some (.int .i64 x.n) ∧ w.cell? ⟨g, o + k * 3 + 2, none⟩ = some (.slice ax x.ks.length cx) ∧ g < w.heap.size) := ⟨u0, u1, u2, hgl⟩
          clear hxk tx ih HL hP0 HF HTo u0 u1 u2 hcx hgl
          go_wp2
          refine wp_region_held_drew (S := fun wz => Below w.heap.size w wz ∧ Arr wz w.heap.size 24 [.int .i64 t.k, .int .i64 t.n, .slice (some ⟨g, o, none⟩) t.ks.length c1]) (by kernel_rfl) ⟨hP.out.bl, hP.out.tb⟩ (fun hS => ?_)
          generalize wr.drew = W0 at hP hS ⊢
          clear p0
          refine wpAnyH_take (i := 0) (v := ?_) rfl (by kernel_rfl) (by kernel_rfl) (by kernel_rfl) (fun _ _ _ h => h) (Or.inl ⟨by rfl, ?_⟩) hS ?_
          rotate_left
          · intro wz hz; go_simp; try with_reducible rfl
          try simp only [Act.put, List.setIfInBounds_toArray, List.set_cons_zero, List.set_cons_succ, List.getElem_toArray, List.getElem_cons_succ, List.getElem_cons_zero]
          refine wpAnyH_take (i := 2) (v := ?_) rfl (by kernel_rfl) (by kernel_rfl) (by kernel_rfl) (fun _ _ _ h => h) (Or.inl ⟨by rfl, ?_⟩) hS ?_
          rotate_left
          · intro wz hz; go_simp; try with_reducible rfl
          try simp only [Act.put, List.setIfInBounds_toArray, List.set_cons_zero, List.set_cons_succ, List.getElem_toArray, List.getElem_cons_succ, List.getElem_cons_zero]
          refine wpAnyH_take (i := 3) (v := ?_) rfl (by kernel_rfl) (by kernel_rfl) (by kernel_rfl) (fun _ _ _ h => h) (Or.inl ⟨by rfl, ?_⟩) hS ?_
          rotate_left
          · intro wz hz; have z0 := hz.2.cell 2; simp only [List.getElem?_cons_succ, List.getElem?_cons_zero] at z0; go_simp; try with_reducible rfl
          try simp only [Act.put, List.setIfInBounds_toArray, List.set_cons_zero, List.set_cons_succ, List.getElem_toArray, List.getElem_cons_succ, List.getElem_cons_zero]
          refine wpAnyH_take (i := 4) (v := ?_) rfl (by kernel_rfl) (by kernel_rfl) (by kernel_rfl) (fun _ _ _ h => h) (Or.inl ⟨by rfl, ?_⟩) hS ?_
          rotate_left
          · intro wz hz; go_simp; try with_reducible rfl
          try simp only [Act.put, List.setIfInBounds_toArray, List.set_cons_zero, List.set_cons_succ, List.getElem_toArray, List.getElem_cons_succ, List.getElem_cons_zero]
          refine wpAnyH_take (i := 5) (v := ?_) rfl (by kernel_rfl) (by kernel_rfl) (by kernel_rfl) (fun _ _ _ h => h) (Or.inl ⟨by rfl, ?_⟩) hS ?_
          rotate_left
          · intro wz hz; go_simp; try with_reducible rfl
          try simp only [Act.put, List.setIfInBounds_toArray, List.set_cons_zero, List.set_cons_succ, List.getElem_toArray, List.getElem_cons_succ, List.getElem_cons_zero]
          refine wpAnyH_take (i := 6) (v := ?_) rfl (by kernel_rfl) (by kernel_rfl) (by kernel_rfl) (fun _ _ _ h => h) (Or.inl ⟨by rfl, ?_⟩) hS ?_
          rotate_left
          · intro wz hz; obtain ⟨q0, q1, q2, qg⟩ := U.out; have z0 := (hz.1.cell (p := ⟨g, o + k * 3, none⟩) qg).trans q0; have z1 := (hz.1.cell (p := ⟨g, o + k * 3 + 1, none⟩) qg).trans q1; have z2 := (hz.1.cell (p := ⟨g, o + k * 3 + 2, none⟩) qg).trans q2; clear q0 q1 q2; go_simp; try with_reducible rfl
          try simp only [Act.put, List.setIfInBounds_toArray, List.set_cons_zero, List.set_cons_succ, List.getElem_toArray, List.getElem_cons_succ, List.getElem_cons_zero]
          refine wpAnyH_take (i := 7) (v := ?_) rfl (by kernel_rfl) (by kernel_rfl) (by kernel_rfl) (fun _ _ _ h => h) (Or.inl ⟨by rfl, ?_⟩) hS ?_
          rotate_left
          · intro wz hz; go_simp; try with_reducible rfl
          try simp only [Act.put, List.setIfInBounds_toArray, List.set_cons_zero, List.set_cons_succ, List.getElem_toArray, List.getElem_cons_succ, List.getElem_cons_zero]
          refine wpAnyH_take (i := 8) (v := ?_) rfl (by kernel_rfl) (by kernel_rfl) (by kernel_rfl) (fun _ _ _ h => h) (Or.inl ⟨by rfl, ?_⟩) hS ?_
          rotate_left
          · intro wz hz; go_simp; try with_reducible rfl
          try simp only [Act.put, List.setIfInBounds_toArray, List.set_cons_zero, List.set_cons_succ, List.getElem_toArray, List.getElem_cons_succ, List.getElem_cons_zero]
          refine wpAnyH_take (i := 9) (v := ?_) rfl (by kernel_rfl) (by kernel_rfl) (by kernel_rfl) (fun _ _ _ h => h) (Or.inl ⟨by rfl, ?_⟩) hS ?_
          rotate_left
          · intro wz hz; go_simp; try with_reducible rfl
          try simp only [Act.put, List.setIfInBounds_toArray, List.set_cons_zero, List.set_cons_succ, List.getElem_toArray, List.getElem_cons_succ, List.getElem_cons_zero]
          clear U
          refine wpAnyH_ready (rs := [1, 10]) (by kernel_rfl) (by simp) (AllReadyH.cons rfl (fun K hK => ?_) (AllReadyH.cons rfl (fun K hK => ?_) AllReadyH.nil))
          · skip
            have l0 := hP.out.ob.cell 2
            simp only [List.getElem?_cons_succ, List.getElem?_cons_zero] at l0
            go_simp
            refine hK.out _ _ hS (fun _ => ?_)
            clear hK K l0
            try simp only [Act.put, List.setIfInBounds_toArray, List.set_cons_zero, List.set_cons_succ, List.getElem_toArray, List.getElem_cons_succ, List.getElem_cons_zero]
            refine wpAnyH_ready (rs := [10]) (by kernel_rfl) (by simp) (AllReadyH.cons rfl (fun K hK => ?_) AllReadyH.nil)
            · skip
              go_simp
              refine (HQ.out _ hP.out.bl.size hP.out.bl).mono ?_
              rintro e w3 ⟨vs', n', rfl, hT3, hb3⟩
              obtain ⟨a5, c5, rfl⟩ := hT3.form
              have hTy : Hid (TAt w3 (Kp B0 w.heap.size (.slice ap k cp)) n' _ _) := hP.out.kp HB0.out hT3
              have hP3 : Hid (Pst w B0 t (Tp.put kind fr tos) (.slice (some ⟨g, o, none⟩) t.ks.length c1) k N (.slice ap k cp) xs w3) := hP.out.stays hb3
              clear hT3 hb3 hP
              have hP := hP3
              clear hP3
              refine hK.out _ _ ⟨hP.out.bl, hP.out.tb⟩ (fun hS3 => ?_)
              clear hK K hS
              have hS := hS3
              clear hS3
              try simp only [Act.put, List.setIfInBounds_toArray, List.set_cons_zero, List.set_cons_succ, List.getElem_toArray, List.getElem_cons_succ, List.getElem_cons_zero]
              refine wpAnyH_ready (rs := [11]) (by kernel_rfl) (by simp) (AllReadyH.cons rfl (fun K hK => ?_) AllReadyH.nil)
              · skip
                go_simp
                have hP4 : Hid (Pst w B0 t (Tp.put kind fr tos) (.slice (some ⟨g, o, none⟩) t.ks.length c1) k N (.slice ap k cp) xs (w3.alloc (.cells #[.int .i64 (Tp.put kind fr tos x).k, .int .i64 (Tp.put kind fr tos x).n, .slice a5 (Tp.put kind fr tos x).ks.length c5] 24))) := hP.out.stays (bl_alloc (Below.refl _ _) _)
                have hT4 : Hid (TAt (w3.alloc (.cells #[.int .i64 (Tp.put kind fr tos x).k, .int .i64 (Tp.put kind fr tos x).n, .slice a5 (Tp.put kind fr tos x).ks.length c5] 24)) (Kp B0 w.heap.size (.slice ap k cp)) n' _ _) := hTy.out.below (bl_alloc (Below.refl _ _) _)
                have hY : Hid (∀ (j : Nat) u, ([.int .i64 (Tp.put kind fr tos x).k, .int .i64 (Tp.put kind fr tos x).n, .slice a5 (Tp.put kind fr tos x).ks.length c5] : List Value)[j]? = some u → (w3.alloc (.cells #[.int .i64 (Tp.put kind fr tos x).k, .int .i64 (Tp.put kind fr tos x).n, .slice a5 (Tp.put kind fr tos x).ks.length c5] 24)).cell? (Addr.add ⟨w3.heap.size, 0, none⟩ j) = some u) := fun j u hu => by rw [addr_add0, cell_at (heap_alloc_at _ _)]; simpa using hu
                clear hP hTy
                have hP := hP4
                have hTy := hT4
                clear hP4 hT4
                refine hK.out _ _ ⟨hP.out.bl, hP.out.tb⟩ (fun hS3 => ?_)
                clear hK K hS
                have hS := hS3
                clear hS3
                try simp only [Act.put, List.setIfInBounds_toArray, List.set_cons_zero, List.set_cons_succ, List.getElem_toArray, List.getElem_cons_succ, List.getElem_cons_zero]
                refine wpAnyH_ready (rs := [12]) (by kernel_rfl) (by simp) (AllReadyH.cons rfl (fun K hK => ?_) AllReadyH.nil)
                refine step_append2 rfl (.tmp 46) (.tmp 56) 22 rfl (w.heap.size + 3) 24 i0 (.agg #[.int .i64 0, .int .i64 0, .slice none 0 0]) 3 40 Try.underlying22 hi0 hz0 hz1 hz2 rfl (by decide) _ k xs rfl hP.out.own ⟨w3.heap.size, 0, none⟩ 1 1 [.int .i64 (Tp.put kind fr tos x).k, .int .i64 (Tp.put kind fr tos x).n, .slice a5 (Tp.put kind fr tos x).ks.length c5] rfl rfl hY.out (by simp [Value.oneCell']) (by unfold maxLen; omega) (by omega) hP.out.sz ?_
                intro v' w9 hown' hgrow hfresh
                obtain ⟨va, vc, rfl⟩ := own_form hown'
                have hM := hP.out.mid hgrow
                have hZ : Hid (Pst _ _ _ _ _ _ _ _ _ _) := hP.out.app hlt HX.out hTy.out HB0.out hown' hgrow hfresh
                clear hown' hgrow hfresh hP hTy hY
                refine hK.out _ _ hM.1 (fun hS => ?_)
                clear hK K
                try simp only [Act.put, List.setIfInBounds_toArray, List.set_cons_zero, List.set_cons_succ, List.getElem_toArray, List.getElem_cons_succ, List.getElem_cons_zero]
                refine wpAnyH_take (i := 13) (v := ?_) rfl (by kernel_rfl) (by kernel_rfl) (by kernel_rfl) (fun _ _ _ h => h) (Or.inl ⟨by rfl, ?_⟩) hS ?_
                rotate_left
                · intro wz hz; go_simp; try with_reducible rfl
                try simp only [Act.put, List.setIfInBounds_toArray, List.set_cons_zero, List.set_cons_succ, List.getElem_toArray, List.getElem_cons_succ, List.getElem_cons_zero]
                refine wpAnyH_ready (rs := [14]) (by kernel_rfl) (by simp) (AllReadyH.cons rfl (fun K hK => ?_) AllReadyH.nil)
                have m0 := hM.2.cell 2
                have m1 := hM.2.frozen 2
                simp only [List.getElem?_cons_succ, List.getElem?_cons_zero] at m0
                go_simp
                refine hK.out _ _ ⟨hZ.out.bl, hZ.out.tb⟩ (fun _ => ?_)
                clear hK K hM m0 m1 hS
                try simp only [Act.put, List.setIfInBounds_toArray, List.set_cons_zero, List.set_cons_succ, List.getElem_toArray, List.getElem_cons_succ, List.getElem_cons_zero]
                refine wpAnyH_done (by kernel_rfl) ?_ _
                go_wp2
                go_roundw
                case rel => exact ⟨k + 1, _, _, _, by go_num, by omega, hZ.out⟩
                case measure => simp [intOf]; omega
          · skip
            go_simp
            refine (HQ.out _ hP.out.bl.size hP.out.bl).mono ?_
            rintro e w3 ⟨vs', n', rfl, hT3, hb3⟩
            obtain ⟨a5, c5, rfl⟩ := hT3.form
            have hTy : Hid (TAt w3 (Kp B0 w.heap.size (.slice ap k cp)) n' _ _) := hP.out.kp HB0.out hT3
            have hP3 : Hid (Pst w B0 t (Tp.put kind fr tos) (.slice (some ⟨g, o, none⟩) t.ks.length c1) k N (.slice ap k cp) xs w3) := hP.out.stays hb3
            clear hT3 hb3 hP
            have hP := hP3
            clear hP3
            refine hK.out _ _ ⟨hP.out.bl, hP.out.tb⟩ (fun hS3 => ?_)
            clear hK K hS
            have hS := hS3
            clear hS3
            try simp only [Act.put, List.setIfInBounds_toArray, List.set_cons_zero, List.set_cons_succ, List.getElem_toArray, List.getElem_cons_succ, List.getElem_cons_zero]
            refine wpAnyH_ready (rs := [1, 11]) (by kernel_rfl) (by simp) (AllReadyH.cons rfl (fun K hK => ?_) (AllReadyH.cons rfl (fun K hK => ?_) AllReadyH.nil))
            · skip
              have l0 := hP.out.ob.cell 2
              simp only [List.getElem?_cons_succ, List.getElem?_cons_zero] at l0
              go_simp
              refine hK.out _ _ hS (fun _ => ?_)
              clear hK K l0
              try simp only [Act.put, List.setIfInBounds_toArray, List.set_cons_zero, List.set_cons_succ, List.getElem_toArray, List.getElem_cons_succ, List.getElem_cons_zero]
              refine wpAnyH_ready (rs := [11]) (by kernel_rfl) (by simp) (AllReadyH.cons rfl (fun K hK => ?_) AllReadyH.nil)
              · skip
                go_simp
                have hP4 : Hid (Pst w B0 t (Tp.put kind fr tos) (.slice (some ⟨g, o, none⟩) t.ks.length c1) k N (.slice ap k cp) xs (w3.alloc (.cells #[.int .i64 (Tp.put kind fr tos x).k, .int .i64 (Tp.put kind fr tos x).n, .slice a5 (Tp.put kind fr tos x).ks.length c5] 24))) := hP.out.stays (bl_alloc (Below.refl _ _) _)
                have hT4 : Hid (TAt (w3.alloc (.cells #[.int .i64 (Tp.put kind fr tos x).k, .int .i64 (Tp.put kind fr tos x).n, .slice a5 (Tp.put kind fr tos x).ks.length c5] 24)) (Kp B0 w.heap.size (.slice ap k cp)) n' _ _) := hTy.out.below (bl_alloc (Below.refl _ _) _)
                have hY : Hid (∀ (j : Nat) u, ([.int .i64 (Tp.put kind fr tos x).k, .int .i64 (Tp.put kind fr tos x).n, .slice a5 (Tp.put kind fr tos x).ks.length c5] : List Value)[j]? = some u → (w3.alloc (.cells #[.int .i64 (Tp.put kind fr tos x).k, .int .i64 (Tp.put kind fr tos x).n, .slice a5 (Tp.put kind fr tos x).ks.length c5] 24)).cell? (Addr.add ⟨w3.heap.size, 0, none⟩ j) = some u) := fun j u hu => by rw [addr_add0, cell_at (heap_alloc_at _ _)]; simpa using hu
                clear hP hTy
                have hP := hP4
                have hTy := hT4
                clear hP4 hT4
                refine hK.out _ _ ⟨hP.out.bl, hP.out.tb⟩ (fun hS3 => ?_)
                clear hK K hS
                have hS := hS3
                clear hS3
                try simp only [Act.put, List.setIfInBounds_toArray, List.set_cons_zero, List.set_cons_succ, List.getElem_toArray, List.getElem_cons_succ, List.getElem_cons_zero]
                refine wpAnyH_ready (rs := [12]) (by kernel_rfl) (by simp) (AllReadyH.cons rfl (fun K hK => ?_) AllReadyH.nil)
                refine step_append2 rfl (.tmp 46) (.tmp 56) 22 rfl (w.heap.size + 3) 24 i0 (.agg #[.int .i64 0, .int .i64 0, .slice none 0 0]) 3 40 Try.underlying22 hi0 hz0 hz1 hz2 rfl (by decide) _ k xs rfl hP.out.own ⟨w3.heap.size, 0, none⟩ 1 1 [.int .i64 (Tp.put kind fr tos x).k, .int .i64 (Tp.put kind fr tos x).n, .slice a5 (Tp.put kind fr tos x).ks.length c5] rfl rfl hY.out (by simp [Value.oneCell']) (by unfold maxLen; omega) (by omega) hP.out.sz ?_
                intro v' w9 hown' hgrow hfresh
                obtain ⟨va, vc, rfl⟩ := own_form hown'
                have hM := hP.out.mid hgrow
                have hZ : Hid (Pst _ _ _ _ _ _ _ _ _ _) := hP.out.app hlt HX.out hTy.out HB0.out hown' hgrow hfresh
                clear hown' hgrow hfresh hP hTy hY
                refine hK.out _ _ hM.1 (fun hS => ?_)
                clear hK K
                try simp only [Act.put, List.setIfInBounds_toArray, List.set_cons_zero, List.set_cons_succ, List.getElem_toArray, List.getElem_cons_succ, List.getElem_cons_zero]
                refine wpAnyH_take (i := 13) (v := ?_) rfl (by kernel_rfl) (by kernel_rfl) (by kernel_rfl) (fun _ _ _ h => h) (Or.inl ⟨by rfl, ?_⟩) hS ?_
                rotate_left
                · intro wz hz; go_simp; try with_reducible rfl
                try simp only [Act.put, List.setIfInBounds_toArray, List.set_cons_zero, List.set_cons_succ, List.getElem_toArray, List.getElem_cons_succ, List.getElem_cons_zero]
                refine wpAnyH_ready (rs := [14]) (by kernel_rfl) (by simp) (AllReadyH.cons rfl (fun K hK => ?_) AllReadyH.nil)
                have m0 := hM.2.cell 2
                have m1 := hM.2.frozen 2
                simp only [List.getElem?_cons_succ, List.getElem?_cons_zero] at m0
                go_simp
                refine hK.out _ _ ⟨hZ.out.bl, hZ.out.tb⟩ (fun _ => ?_)
                clear hK K hM m0 m1 hS
                try simp only [Act.put, List.setIfInBounds_toArray, List.set_cons_zero, List.set_cons_succ, List.getElem_toArray, List.getElem_cons_succ, List.getElem_cons_zero]
                refine wpAnyH_done (by kernel_rfl) ?_ _
                go_wp2
                go_roundw
                case rel => exact ⟨k + 1, _, _, _, by go_num, by omega, hZ.out⟩
                case measure => simp [intOf]; omega
            · skip
              go_simp
              have hP4 : Hid (Pst w B0 t (Tp.put kind fr tos) (.slice (some ⟨g, o, none⟩) t.ks.length c1) k N (.slice ap k cp) xs (w3.alloc (.cells #[.int .i64 (Tp.put kind fr tos x).k, .int .i64 (Tp.put kind fr tos x).n, .slice a5 (Tp.put kind fr tos x).ks.length c5] 24))) := hP.out.stays (bl_alloc (Below.refl _ _) _)
              have hT4 : Hid (TAt (w3.alloc (.cells #[.int .i64 (Tp.put kind fr tos x).k, .int .i64 (Tp.put kind fr tos x).n, .slice a5 (Tp.put kind fr tos x).ks.length c5] 24)) (Kp B0 w.heap.size (.slice ap k cp)) n' _ _) := hTy.out.below (bl_alloc (Below.refl _ _) _)
              have hY : Hid (∀ (j : Nat) u, ([.int .i64 (Tp.put kind fr tos x).k, .int .i64 (Tp.put kind fr tos x).n, .slice a5 (Tp.put kind fr tos x).ks.length c5] : List Value)[j]? = some u → (w3.alloc (.cells #[.int .i64 (Tp.put kind fr tos x).k, .int .i64 (Tp.put kind fr tos x).n, .slice a5 (Tp.put kind fr tos x).ks.length c5] 24)).cell? (Addr.add ⟨w3.heap.size, 0, none⟩ j) = some u) := fun j u hu => by rw [addr_add0, cell_at (heap_alloc_at _ _)]; simpa using hu
              clear hP hTy
              have hP := hP4
              have hTy := hT4
              clear hP4 hT4
              refine hK.out _ _ ⟨hP.out.bl, hP.out.tb⟩ (fun hS3 => ?_)
              clear hK K hS
              have hS := hS3
              clear hS3
              try simp only [Act.put, List.setIfInBounds_toArray, List.set_cons_zero, List.set_cons_succ, List.getElem_toArray, List.getElem_cons_succ, List.getElem_cons_zero]
              refine wpAnyH_ready (rs := [1]) (by kernel_rfl) (by simp) (AllReadyH.cons rfl (fun K hK => ?_) AllReadyH.nil)
              · skip
                have l0 := hP.out.ob.cell 2
                simp only [List.getElem?_cons_succ, List.getElem?_cons_zero] at l0
                go_simp
                refine hK.out _ _ hS (fun _ => ?_)
                clear hK K l0
                try simp only [Act.put, List.setIfInBounds_toArray, List.set_cons_zero, List.set_cons_succ, List.getElem_toArray, List.getElem_cons_succ, List.getElem_cons_zero]
                refine wpAnyH_ready (rs := [12]) (by kernel_rfl) (by simp) (AllReadyH.cons rfl (fun K hK => ?_) AllReadyH.nil)
                refine step_append2 rfl (.tmp 46) (.tmp 56) 22 rfl (w.heap.size + 3) 24 i0 (.agg #[.int .i64 0, .int .i64 0, .slice none 0 0]) 3 40 Try.underlying22 hi0 hz0 hz1 hz2 rfl (by decide) _ k xs rfl hP.out.own ⟨w3.heap.size, 0, none⟩ 1 1 [.int .i64 (Tp.put kind fr tos x).k, .int .i64 (Tp.put kind fr tos x).n, .slice a5 (Tp.put kind fr tos x).ks.length c5] rfl rfl hY.out (by simp [Value.oneCell']) (by unfold maxLen; omega) (by omega) hP.out.sz ?_
                intro v' w9 hown' hgrow hfresh
                obtain ⟨va, vc, rfl⟩ := own_form hown'
                have hM := hP.out.mid hgrow
                have hZ : Hid (Pst _ _ _ _ _ _ _ _ _ _) := hP.out.app hlt HX.out hTy.out HB0.out hown' hgrow hfresh
                clear hown' hgrow hfresh hP hTy hY
                refine hK.out _ _ hM.1 (fun hS => ?_)
                clear hK K
                try simp only [Act.put, List.setIfInBounds_toArray, List.set_cons_zero, List.set_cons_succ, List.getElem_toArray, List.getElem_cons_succ, List.getElem_cons_zero]
                refine wpAnyH_take (i := 13) (v := ?_) rfl (by kernel_rfl) (by kernel_rfl) (by kernel_rfl) (fun _ _ _ h => h) (Or.inl ⟨by rfl, ?_⟩) hS ?_
                rotate_left
                · intro wz hz; go_simp; try with_reducible rfl
                try simp only [Act.put, List.setIfInBounds_toArray, List.set_cons_zero, List.set_cons_succ, List.getElem_toArray, List.getElem_cons_succ, List.getElem_cons_zero]
                refine wpAnyH_ready (rs := [14]) (by kernel_rfl) (by simp) (AllReadyH.cons rfl (fun K hK => ?_) AllReadyH.nil)
                have m0 := hM.2.cell 2
                have m1 := hM.2.frozen 2
                simp only [List.getElem?_cons_succ, List.getElem?_cons_zero] at m0
                go_simp
                refine hK.out _ _ ⟨hZ.out.bl, hZ.out.tb⟩ (fun _ => ?_)
                clear hK K hM m0 m1 hS
                try simp only [Act.put, List.setIfInBounds_toArray, List.set_cons_zero, List.set_cons_succ, List.getElem_toArray, List.getElem_cons_succ, List.getElem_cons_zero]
                refine wpAnyH_done (by kernel_rfl) ?_ _
                go_wp2
                go_roundw
                case rel => exact ⟨k + 1, _, _, _, by go_num, by omega, hZ.out⟩
                case measure => simp [intOf]; omega
        · skip
          have hkk : k = t.ks.length := by omega
          subst hkk
          have hP : Hid (Pst w B0 t (Tp.put kind fr tos) (.slice a1 t.ks.length c1) t.ks.length N (.slice ap t.ks.length cp) xs wr) := hP0
          have p1 := hP0.ob.cell
          have p2 := hP0.rs.cell
          have p3 := hP0.rs.frozen
          clear hP0 ih HL HF HTo
          go_wp2
          refine bodyPost_ret (v := .agg #[.int .i64 t.k, .int .i64 t.n, .slice ap t.ks.length cp]) (by rw [results_cell1 (fn := Try.f35) (p := 8) (ty := 24) (by kernel_rfl)]; simp [go_sem, p1, p2]) rfl ?_
          have ns : ¬ (w.heap.size + 1 < B0 ∨ w.heap.size + 3 ≤ w.heap.size + 1) := by have := HB0.out; omega
          exact ⟨[_, _, _], N + 1, rfl, hP.out.fin12 HB0.out (((Keeps.set (p := ⟨w.heap.size + 1, 0, none⟩) ns _).trans (Keeps.set (p := ⟨w.heap.size + 1, 1, none⟩) ns _)).trans (Keeps.set (p := ⟨w.heap.size + 1, 2, none⟩) ns _)) H64.out hkl, bl_set _ _ (bl_set _ _ (bl_set _ _ hP.out.bl (by show _ ≤ w.heap.size + 1; omega)) (by show _ ≤ w.heap.size + 1; omega)) (by show _ ≤ w.heap.size + 1; omega)⟩
theorem put12_any (kind : Int) (fv tv : Value) (fr : List Int) (tos : List Tp) (hlen : fr.length = tos.length) (m B0 : Nat) : ∀ n, PutOf12 kind fv tv fr tos m B0 n
  | 0 => fun w vs t h _ _ _ _ => h.elim
  | n + 1 => put_step12 kind fv tv fr tos hlen m B0 n (put12_any kind fv tv fr tos hlen m B0 n)

end Go.Proofs.Ythijckdhndbdoaa

namespace Go.Proofs.Ythijckdhndbdoaa

open Go.RowKit
set_option linter.unusedVariables false
set_option linter.unusedSimpArgs false

set_option maxHeartbeats 2000000 in
set_option maxRecDepth 100000 in
theorem refReplace_in (w0 w : World) (n m : Nat) (vs : List Value) (t : Tp) (kind : Int) (fv tv : Value) (fr : List Int) (tos : List Tp) (hT : TAt w Any n vs t) (hf : Ls w Any fv fr) (ht0 : TAtL w0 Any m tv tos) (h0 : Below w0.heap.size w0 w) :
    Calls Try.prog 39 #[.agg vs.toArray, .int .i64 kind, fv, tv] w fun e w' => ∃ vs' n', e = .returned (.tuple #[.agg vs'.toArray, .int .i64 (Tp.repl kind fr tos t).2]) ∧ TAt w' (fun b => b < w0.heap.size ∨ w.heap.size ≤ b) n' vs' (Tp.repl kind fr tos t).1 ∧ Below w.heap.size w w' := by
  have ht := ht0.below h0
  have hs0 : Hid (w0.heap.size ≤ w.heap.size) := h0.size
  obtain ⟨fa, fc, hfv, hfm⟩ := hf.form
  obtain ⟨ta, tc, htv, htm⟩ := ht.form
  unfold maxLen at hfm htm
  by_cases hl : fr.length = tos.length
  · have hqg : Hid (∀ wz, Below w.heap.size w wz → Calls Try.prog 61 #[.agg vs.toArray, .int .i64 kind, fv, tv, .int .i64 0] wz fun e w' => e = .returned (.int .i64 (Tp.cap (0 + (Tp.put kind fr tos t).cnt))) ∧ Below wz.heap.size wz w') := fun wz hz => grown_any kind fv tv fr tos hl m n wz vs t 0 (hT.below hz) (hf.below hz) (ht.below hz) (by decide) (by decide)
    have hqp : Hid (∀ wz, Below w.heap.size w wz → (Tp.put kind fr tos t).cnt ≤ 1000 → Calls Try.prog 62 #[.agg vs.toArray, .int .i64 kind, fv, tv] wz fun e w' => ∃ vs' n', e = .returned (.agg vs'.toArray) ∧ TAt w' (fun b => b < w0.heap.size ∨ wz.heap.size ≤ b) n' vs' (Tp.put kind fr tos t) ∧ Below wz.heap.size wz w') := fun wz hz hc => put_any kind fv tv fr tos hl m w0.heap.size n wz vs t (hT.below hz) (hf.below hz) (((TAtL.old ht0).below h0).below hz) (Nat.le_trans h0.size hz.size) hc
    have hne : ((fr.length : Int) != (tos.length : Int)) = false := by simp [hl]
    obtain ⟨a, c, rfl⟩ := hT.form
    subst hfv; subst htv
    have XB : Hid (Below w.heap.size w ((w.alloc (.cells #[.int .i64 t.k, .int .i64 t.n, .slice a t.ks.length c] 24)).alloc (.cells #[.int .i64 0, .int .i64 0, .slice none 0 0] 24))) := bl_alloc (bl_alloc (Below.refl _ _) _) _
    have X0 : Hid (Arr ((w.alloc (.cells #[.int .i64 t.k, .int .i64 t.n, .slice a t.ks.length c] 24)).alloc (.cells #[.int .i64 0, .int .i64 0, .slice none 0 0] 24)) w.heap.size 24 [.int .i64 t.k, .int .i64 t.n, .slice a t.ks.length c]) := Arr.stays ⟨heap_alloc_at _ _⟩ (bl_alloc (Below.refl _ _) _)
    have X1 : Hid (Arr ((w.alloc (.cells #[.int .i64 t.k, .int .i64 t.n, .slice a t.ks.length c] 24)).alloc (.cells #[.int .i64 0, .int .i64 0, .slice none 0 0] 24)) (w.heap.size + 1) 24 [.int .i64 0, .int .i64 0, .slice none 0 0]) := res_box w _
    by_cases hc : (Tp.put kind fr tos t).cnt ≤ 1000
    · have hrp : Tp.repl kind fr tos t = ((Tp.put kind fr tos t), 0) := by unfold Tp.repl; rw [if_neg (by simp [hl]), if_neg (by omega)]
      rw [hrp]
      rw [Tp.cap_small (by omega)] at hqg
      have hz3 : decide ((1000 : Int) < 0 + ((Tp.put kind fr tos t).cnt : Int)) = false := decide_eq_false (by omega)
      generalize 0 + ((Tp.put kind fr tos t).cnt : Int) = z at hqg hz3
      have HC : Hid ((Tp.put kind fr tos t).cnt ≤ 1000) := hc
      clear hc hrp hf ht ht0 h0 hT hl
      go_enter Try.func39, Try.ntmps39
      go_wp2_with (first | (go_at_call 61; refine (hqg.out _ XB.out).mono ?_; rintro e w2 ⟨rfl, hb2⟩; have Y0 : Hid (Arr w2 w.heap.size 24 _) := X0.out.stays hb2; have Y1 : Hid (Arr w2 (w.heap.size + 1) 24 _) := X1.out.stays hb2; have YB : Hid (Below w.heap.size w w2) := bl_tr XB.out hb2; have k0 := Y0.out.cell; clear hb2) | (go_at_call 62; refine (hqp.out _ YB.out HC.out).mono ?_; rintro e w3 ⟨vs3, n3, rfl, hT3, hb3⟩; obtain ⟨a3, c3, rfl⟩ := hT3.form; have Z1 : Hid (Arr w3 (w.heap.size + 1) 24 _) := Y1.out.stays hb3; have HT3 : Hid (TAt w3 _ n3 _ _) := hT3; have ZB : Hid (Below w.heap.size w w3) := bl_tr YB.out hb3; have k1 := Z1.out.cell; have k2 := Z1.out.frozen; clear hT3 hb3))
      refine bodyPost_ret (v := .tuple #[.agg #[.int .i64 (Tp.put kind fr tos t).k, .int .i64 (Tp.put kind fr tos t).n, .slice a3 (Tp.put kind fr tos t).ks.length c3], .int .i64 0]) (by rw [results_cell_tmp (fn := Try.f39) (p := 8) (u := 9) (ty := 24) (by kernel_rfl)]; simp [go_sem, k1]) rfl ?_
      have hs2 : w.heap.size + 1 < w2.heap.size := Y1.out.lt
      have ns : ¬ (w.heap.size + 1 < w0.heap.size ∨ w2.heap.size ≤ w.heap.size + 1) := by have := hs0.out; omega
      exact ⟨[_, _, _], n3, rfl, (HT3.out.move (((Keeps.set (p := ⟨w.heap.size + 1, 0, none⟩) ns _).trans (Keeps.set (p := ⟨w.heap.size + 1, 1, none⟩) ns _)).trans (Keeps.set (p := ⟨w.heap.size + 1, 2, none⟩) ns _)) (fun b (h : b < w0.heap.size ∨ w2.heap.size ≤ b) => h.imp id (fun h => by omega))), bl_set _ _ (bl_set _ _ (bl_set _ _ ZB.out (by show _ ≤ w.heap.size + 1; omega)) (by show _ ≤ w.heap.size + 1; omega)) (by show _ ≤ w.heap.size + 1; omega)⟩
    · have hrp : Tp.repl kind fr tos t = (Tp.zero, 3) := by unfold Tp.repl; rw [if_neg (by simp [hl]), if_pos (by omega)]
      rw [hrp]
      rw [Tp.cap_big (by omega)] at hqg
      clear hc hrp hf ht ht0 h0 hT hl hqp
      go_enter Try.func39, Try.ntmps39
      go_wp2_with (first | (go_at_call 61; refine (hqg.out _ XB.out).mono ?_; rintro e w2 ⟨rfl, hb2⟩; have Y1 : Hid (Arr w2 (w.heap.size + 1) 24 _) := X1.out.stays hb2; have hb3 : Below w.heap.size w w2 := bl_tr XB.out hb2; have k1 := Y1.out.cell; have k2 := Y1.out.frozen; clear hb2))
      refine bodyPost_ret (v := .tuple #[.agg #[.int .i64 0, .int .i64 0, .slice none 0 0], .int .i64 3]) (by rw [results_cell_tmp (fn := Try.f39) (p := 8) (u := 9) (ty := 24) (by kernel_rfl)]; simp [go_sem, k1]) rfl ?_
      exact ⟨[_, _, _], 1, rfl, TAt.zero _ _, by repeat' (first | exact hb3 | with_reducible refine bl_set _ _ ?_ ?_ | (simp; done))⟩
  · have hrp : Tp.repl kind fr tos t = (Tp.zero, 1) := by unfold Tp.repl; rw [if_pos hl]
    rw [hrp]
    have hne : ((fr.length : Int) != (tos.length : Int)) = true := by simp; omega
    obtain ⟨a, c, rfl⟩ := hT.form
    subst hfv; subst htv
    clear hrp hf ht hT hl
    go_enter Try.func39, Try.ntmps39
    go_wp2
    refine bodyPost_ret (v := .tuple #[.agg #[.int .i64 0, .int .i64 0, .slice none 0 0], .int .i64 1]) (by rw [results_cell_tmp (fn := Try.f39) (p := 8) (u := 9) (ty := 24) (by kernel_rfl)]; simp [go_sem]) rfl ?_
    exact ⟨[_, _, _], 1, rfl, TAt.zero _ _, by repeat' (first | exact Below.refl _ _ | with_reducible refine bl_alloc ?_ _ | with_reducible refine bl_set _ _ ?_ ?_ | (simp; done))⟩

end Go.Proofs.Ythijckdhndbdoaa

namespace Go.Proofs.Ythijckdhndbdoaa

open Go.RowKit
set_option linter.unusedVariables false
set_option linter.unusedSimpArgs false

/-- What the document's Instance leaves. -/
def Repl12 (w : World) (q : Tp × Int) (e : Ending) (w' : World) : Prop := ∃ vs' n', e = .returned (.tuple #[.agg vs'.toArray, .int .i64 q.2]) ∧ TAt w' Any n' vs' q.1 ∧ Below w.heap.size w w'
theorem nums_length (m : Nat) : (nums m).length = m := by simp [nums]
theorem found_nums {t : Tp} {m : Nat} (h : Tp.rightS (m : Int) t = true) : Tp.found 8 t [] = nums m := by
  unfold Tp.rightS at h
  rw [Bool.and_eq_true, Bool.and_eq_true, decide_eq_true_eq] at h
  have h1 := ups_range _ _ h.2.1
  have h2 : (Tp.found 8 t []).length = m := by have := h.2.2; omega
  rw [h2] at h1
  rw [h1]
  simp [nums]

set_option maxHeartbeats 4000000 in
set_option maxRecDepth 100000 in
theorem refInstance_any (w : World) (n N : Nat) (g : Int) (vs : List Value) (t : Tp) (lv : Value) (l : List Tp) (hT : TAt w Any n vs t) (hc : t.cnt ≤ 1048576) (hl : TAtL w Any N lv l) (hg : R64 g) : Calls Try.prog 11 #[.agg (.int .i64 g :: vs).toArray, lv] w (Repl12 w (Tp.insta g t l)) := by
  obtain ⟨a, c, rfl⟩ := hT.form
  obtain ⟨la, lc, rfl, hlm⟩ := hl.form
  unfold maxLen at hlm
  have HB2 : Hid (∀ o o', Below w.heap.size w ((w.alloc o).alloc o')) := fun o o' => bl_alloc (bl_alloc (Below.refl _ _) _) _
  have hRS : Hid (∀ wz, Below w.heap.size w wz → Calls Try.prog 34 #[.agg #[.int .i64 g, .int .i64 t.k, .int .i64 t.n, .slice a t.ks.length c]] wz fun e w' => e = .returned (.bool (Tp.rightS g t)) ∧ Below wz.heap.size wz w') := fun wz hz => refRightScheme_any wz n g _ t (hT.below hz) hc
  have HA0 : Hid (∀ o, Arr ((w.alloc (.cells #[.int .i64 g, .int .i64 t.k, .int .i64 t.n, .slice a t.ks.length c] 26)).alloc o) w.heap.size 26 [.int .i64 g, .int .i64 t.k, .int .i64 t.n, .slice a t.ks.length c]) := fun o => Arr.stays ⟨heap_alloc_at _ _⟩ (bl_alloc (Below.refl _ _) _)
  have HA1 : Hid (∀ o, Arr ((w.alloc o).alloc (.cells #[.int .i64 0, .int .i64 0, .slice none 0 0] 24)) (w.heap.size + 1) 24 [.int .i64 0, .int .i64 0, .slice none 0 0]) := fun o => ⟨by have := heap_alloc_at (w.alloc o) (.cells #[.int .i64 0, .int .i64 0, .slice none 0 0] 24); rw [size_alloc] at this; exact this⟩
  have HSS : Hid (∀ (W : World) j u, Below w.heap.size w W → Below w.heap.size w (W.setCell ⟨w.heap.size + 1, j, none⟩ u)) := fun W j u h => bl_set _ _ h (by show _ ≤ w.heap.size + 1; omega)
  by_cases hr : Tp.rightS g t = true
  · by_cases hlg : (l.length : Int) = g
    · have he : Tp.insta g t l = Tp.repl 8 (nums l.length) l t := by unfold Tp.insta; rw [if_pos ⟨hr, hlg⟩]
      subst hlg
      have hll : l.length ≤ 1048576 := by have := rightS_g hr hc; omega
      rw [he]
      rw [hr] at hRS
      have hU : Hid (∀ wz, Below w.heap.size w wz → Calls Try.prog 36 #[.agg #[.int .i64 t.k, .int .i64 t.n, .slice a t.ks.length c]] wz fun e w' => ∃ p c, e = .returned (.slice p l.length c) ∧ Ls w' Any (.slice p l.length c) (nums l.length) ∧ Below wz.heap.size wz w') := fun wz hz => by have h := refGens_any wz n _ t (hT.below hz) hc; rw [found_nums hr] at h; simp only [nums_length] at h; exact h
      have hRe : Hid (∀ wz fv, Below w.heap.size w wz → Ls wz Any fv (nums l.length) → Calls Try.prog 39 #[.agg #[.int .i64 t.k, .int .i64 t.n, .slice a t.ks.length c], .int .i64 8, fv, .slice la l.length lc] wz fun e w' => ∃ y q a n' c, Tp.repl 8 (nums l.length) l t = (y, q) ∧ e = .returned (.tuple #[.agg #[.int .i64 y.k, .int .i64 y.n, .slice a y.ks.length c], .int .i64 q]) ∧ TAt w' (fun b => b < w.heap.size ∨ wz.heap.size ≤ b) n' [.int .i64 y.k, .int .i64 y.n, .slice a y.ks.length c] y ∧ Below wz.heap.size wz w') := by
        intro wz fv hz hf
        refine (refReplace_in w wz n N _ t 8 fv _ _ l (hT.below hz) hf hl hz).mono ?_
        rintro e w' ⟨vs', n', rfl, h1, h2⟩
        obtain ⟨a', c', rfl⟩ := h1.form
        exact ⟨_, _, a', n', c', rfl, rfl, h1, h2⟩
      have hne : ((l.length : Int) != (l.length : Int)) = false := by simp
      clear hT hc hl he hr hll hlm
      generalize Tp.repl 8 (nums l.length) l t = rr at hRe ⊢
      go_enter Try.func11, Try.ntmps11
      go_wp2_with (go_at_call 34; refine (hRS.out _ (HB2.out _ _)).mono ?_; rintro e w3 ⟨rfl, hb3⟩; have HB3 := hid (bl_tr (HB2.out _ _) hb3); have H0 := hid ((HA0.out _).stays hb3); have H1 := hid ((HA1.out _).stays hb3); have q0 := H0.out.cell; clear hb3)
      clear HB2 HA0 HA1 hRS q0
      have hs0 : Hid ((∀ j : Nat, w3.drew.cell? ⟨w.heap.size, j, none⟩ = [.int .i64 (l.length : Int), .int .i64 t.k, .int .i64 t.n, .slice a t.ks.length c][j]?) ∧ SI w w.heap.size (w.heap.size + 1) 24 w3.drew) := ⟨H0.out.cell, ⟨_, _, _, H1.out.stays (Below.refl _ _).drew⟩, H0.out.lt, by omega, by omega, HB3.out.drew⟩
      have HLW : Hid (w.heap.size + 1 < w3.drew.heap.size) := H1.out.lt
      clear HB3 H0 H1
      go_region_held (fun w' => (∀ j : Nat, w'.cell? ⟨w.heap.size, j, none⟩ = [.int .i64 (l.length : Int), .int .i64 t.k, .int .i64 t.n, .slice a t.ks.length c][j]?) ∧ SI w w.heap.size (w.heap.size + 1) 24 w') (first | exact hs0.out | exact keepI (by assumption) (by assumption) | (with_reducible (refine keepS (keepS (keepS ?_)))); assumption) (first | (go_at_call 36; refine (hU.out _ (beloI (by assumption))).mono ?_; rintro e wa ⟨pa, ca, rfl, hla, hba⟩; have HLA := hid hla; clear hla) | (go_at_call 39; refine (hRe.out _ _ (beloI (by assumption)) HLA.out).mono ?_; rintro e wb ⟨y, q, a8, n8, c8, hy8, rfl, hT8, hb8⟩; have HT8 := hid hT8; have HY8 := hid hy8; obtain ⟨u0, u1, u2, hA8⟩ := arrI (by assumption); have q8 := (hA8.stays hb8).cell; have q9 := (hA8.stays hb8).frozen; clear hA8 hT8 hy8))
      all_goals go_wp2
      all_goals refine bodyPost_ret (v := .tuple #[.agg #[.int .i64 y.k, .int .i64 y.n, .slice a8 y.ks.length c8], .int .i64 q]) (by rw [results_cell2 (fn := Try.f11) (p := 4) (a := 5) (ty := 24) (by kernel_rfl)]; simp [go_sem, q8, q9]) rfl ?_
      all_goals have hK : ∀ (W : World) j u, Keeps (fun b => b ≠ w.heap.size + 1) W (W.setCell ⟨w.heap.size + 1, j, none⟩ u) := fun W j u => Keeps.set (K := fun b => b ≠ w.heap.size + 1) (p := ⟨w.heap.size + 1, j, none⟩) (fun h => h rfl) u
      all_goals have hlt : w.heap.size + 1 < wa.heap.size := Nat.lt_of_lt_of_le HLW.out hba.size
      all_goals rw [HY8.out]
      all_goals refine ⟨[_, _, _], n8, rfl, ?_, beloI (by assumption)⟩
      all_goals exact (HT8.out.move (K' := fun b => b ≠ w.heap.size + 1) (Keeps.refl _ _) (fun b hb => by show b ≠ _; omega)).move (((hK _ _ _).trans (hK _ _ _)).trans (hK _ _ _)) (fun _ _ => trivial)
    · have he : Tp.insta g t l = (Tp.zero, 1) := by unfold Tp.insta; rw [if_neg (fun h => hlg h.2)]
      rw [he]
      rw [hr] at hRS
      have hne : ((l.length : Int) != g) = true := by simpa using hlg
      clear hT hc hl he hr hlg
      go_enter Try.func11, Try.ntmps11
      go_wp2_with (go_at_call 34; refine (hRS.out _ (HB2.out _ _)).mono ?_; rintro e w3 ⟨rfl, hb3⟩; have HB3 := hid hb3; have q0 := ((HA0.out _).stays hb3).cell; have q1 := ((HA1.out _).stays hb3).cell; have q2 := ((HA1.out _).stays hb3).frozen; clear hb3)
      refine bodyPost_ret (v := .tuple #[.agg #[.int .i64 0, .int .i64 0, .slice none 0 0], .int .i64 1]) (by rw [results_cell2 (fn := Try.f11) (p := 4) (a := 5) (ty := 24) (by kernel_rfl)]; simp [go_sem, q1, q2]) rfl ?_
      exact ⟨[_, _, _], 1, rfl, TAt.zero _ _, HSS.out _ _ _ (HSS.out _ _ _ (HSS.out _ _ _ (bl_tr (HB2.out _ _) HB3.out)))⟩
  · have he : Tp.insta g t l = (Tp.zero, 1) := by unfold Tp.insta; rw [if_neg (fun h => hr h.1)]
    have hr' : Tp.rightS g t = false := by simpa using hr
    rw [he]
    rw [hr'] at hRS
    clear hT hc hl he hr hr'
    go_enter Try.func11, Try.ntmps11
    go_wp2_with (go_at_call 34; refine (hRS.out _ (HB2.out _ _)).mono ?_; rintro e w3 ⟨rfl, hb3⟩; have HB3 := hid hb3; have q1 := ((HA1.out _).stays hb3).cell; have q2 := ((HA1.out _).stays hb3).frozen; clear hb3)
    refine bodyPost_ret (v := .tuple #[.agg #[.int .i64 0, .int .i64 0, .slice none 0 0], .int .i64 1]) (by rw [results_cell2 (fn := Try.f11) (p := 4) (a := 5) (ty := 24) (by kernel_rfl)]; simp [go_sem, q1, q2]) rfl ?_
    exact ⟨[_, _, _], 1, rfl, TAt.zero _ _, HSS.out _ _ _ (HSS.out _ _ _ (HSS.out _ _ _ (bl_tr (HB2.out _ _) HB3.out)))⟩

end Go.Proofs.Ythijckdhndbdoaa

namespace Go.Proofs.Ythijckdhndbdoaa

open Go.RowKit
set_option linter.unusedVariables false

/-- The metas next, next + 1, .. -/
def mets (next : Int) (m : Nat) : List Tp := (List.range m).map fun (j : Nat) => .mk 7 (next + j) []
theorem mets_length (next : Int) (m : Nat) : (mets next m).length = m := by simp [mets]
mutual
theorem Tp.mff_inst (next : Int) : ∀ t : Tp, t.right = true → Tp.ren (mff next) t = Tp.inst (fun n => .mk 7 (wrap64 (next + n)) []) t
  | .mk k n ks, h => by
    rw [Tp.ren, Tp.inst]
    by_cases hk : k = 8
    · have hs : ks = [] := (Tp.right_gen h hk).2
      subst hs
      rw [if_pos hk, Tp.renL]
      simp [mff, hk]
    · rw [Tp.right, Bool.and_eq_true] at h
      rw [if_neg hk, Tp.mff_instL next ks h.2]
      simp [mff, hk]
theorem Tp.mff_instL (next : Int) : ∀ l : List Tp, Tp.rightL l = true → Tp.renL (mff next) l = Tp.instL (fun n => .mk 7 (wrap64 (next + n)) []) l
  | [], h => by rw [Tp.renL, Tp.instL]
  | x :: r, h => by
    rw [Tp.rightL, Bool.and_eq_true] at h
    rw [Tp.renL, Tp.instL, Tp.mff_inst next x h.1, Tp.mff_instL next r h.2]
end
theorem put_mets {g : Nat} {next : Int} {t : Tp} (hr : Tp.rightS (g : Int) t = true) (h0 : 0 ≤ next) (h1 : next ≤ 2147483647) (hg : g ≤ 1048576) : Tp.put 8 (nums g) (mets next g) t = Tp.ren (mff next) t := by
  have hri : t.right = true := by unfold Tp.rightS at hr; rw [Bool.and_eq_true] at hr; exact hr.1
  have hal := rightS_all hr
  have e := Tp.put_inst (mets next g) t (fun n hn => by rw [mets_length]; exact (hal n).1 hn)
  rw [mets_length] at e
  rw [e, Tp.mff_inst next t hri]
  refine Tp.inst_congr _ _ t (fun n hn => ?_)
  obtain ⟨a, b⟩ := (hal n).1 hn
  obtain ⟨i, rfl⟩ : ∃ i : Nat, n = i := ⟨n.toNat, by omega⟩
  have hi : i < g := by omega
  have hw : wrap64 (next + (i : Int)) = next + i := by unfold wrap64; omega
  rw [hw, Int.toNat_natCast, List.getD_eq_getElem?_getD]
  unfold mets
  rw [List.getElem?_map, List.getElem?_range hi]
  rfl

end Go.Proofs.Ythijckdhndbdoaa

namespace Go.Proofs.Ythijckdhndbdoaa

open Go.RowKit
set_option linter.unusedVariables false
set_option linter.unusedSimpArgs false

set_option maxHeartbeats 4000000 in
set_option maxRecDepth 100000 in
theorem refInstantiate_bad (w : World) (n : Nat) (g next : Int) (vs : List Value) (t : Tp) (hT : TAt w Any n vs t) (hc : t.cnt ≤ 1048576) (h : ¬ InstOk g next t) : Calls Try.prog 9 #[.agg (.int .i64 g :: vs).toArray, .int .i64 next] w fun e w' => e = .returned (.tuple #[.agg #[.int .i64 0, .int .i64 0, .slice none 0 0], .int .i64 0, .int .i64 1]) ∧ Below w.heap.size w w' := by
  obtain ⟨a, c, rfl⟩ := hT.form
  have HB2 : Hid (∀ o o', Below w.heap.size w ((w.alloc o).alloc o')) := fun o o' => bl_alloc (bl_alloc (Below.refl _ _) _) _
  have hRS : Hid (∀ wz, Below w.heap.size w wz → Calls Try.prog 34 #[.agg #[.int .i64 g, .int .i64 t.k, .int .i64 t.n, .slice a t.ks.length c]] wz fun e w' => e = .returned (.bool (Tp.rightS g t)) ∧ Below wz.heap.size wz w') := fun wz hz => refRightScheme_any wz n g _ t (hT.below hz) hc
  have HA1 : Hid (∀ o, Arr ((w.alloc o).alloc (.cells #[.int .i64 0, .int .i64 0, .slice none 0 0] 24)) (w.heap.size + 1) 24 [.int .i64 0, .int .i64 0, .slice none 0 0]) := fun o => ⟨by have := heap_alloc_at (w.alloc o) (.cells #[.int .i64 0, .int .i64 0, .slice none 0 0] 24); rw [size_alloc] at this; exact this⟩
  have hcase : Tp.rightS g t = false ∨ Tp.rightS g t = true ∧ next < 0 ∨ Tp.rightS g t = true ∧ ¬ next < 0 ∧ next > 2147483647 := by
    unfold InstOk at h
    cases hr : Tp.rightS g t with
    | false => exact .inl rfl
    | true =>
      rw [hr] at h
      by_cases h0 : next < 0
      · exact .inr (.inl ⟨rfl, h0⟩)
      · exact .inr (.inr ⟨rfl, h0, by
          by_cases h1 : next > 2147483647
          · exact h1
          · exact absurd ⟨rfl, by omega, by omega⟩ h⟩)
  clear hT hc h
  generalize Tp.rightS g t = rs at hRS hcase
  have hs : ∀ (W : World) j u, Below w.heap.size w W → Below w.heap.size w (W.setCell ⟨w.heap.size + 1, j, none⟩ u) := fun W j u h => bl_set _ _ h (by show _ ≤ w.heap.size + 1; omega)
  have HSS := hid hs
  clear hs
  rcases hcase with rfl | ⟨rfl, h1⟩ | ⟨rfl, h1, h2⟩
  · go_enter Try.func9, Try.ntmps9
    go_wp2_with (go_at_call 34; refine (hRS.out _ (HB2.out _ _)).mono ?_; rintro e w3 ⟨rfl, hb3⟩; have HB3 := hid hb3; have q1 := ((HA1.out _).stays hb3).cell; have q2 := ((HA1.out _).stays hb3).frozen; clear hb3)
    refine bodyPost_ret (v := .tuple #[.agg #[.int .i64 0, .int .i64 0, .slice none 0 0], .int .i64 0, .int .i64 1]) (by rw [results_cell3 (fn := Try.f9) (p := 4) (a := 5) (b := 6) (ty := 24) (by kernel_rfl)]; simp [go_sem, q1, q2]) rfl ?_
    exact ⟨rfl, HSS.out _ _ _ (HSS.out _ _ _ (HSS.out _ _ _ (bl_tr (HB2.out _ _) HB3.out)))⟩
  · have hd : decide (next < 0) = true := decide_eq_true h1
    clear h1
    go_enter Try.func9, Try.ntmps9
    go_wp2_with (go_at_call 34; refine (hRS.out _ (HB2.out _ _)).mono ?_; rintro e w3 ⟨rfl, hb3⟩; have HB3 := hid hb3; have q1 := ((HA1.out _).stays hb3).cell; have q2 := ((HA1.out _).stays hb3).frozen; clear hb3)
    refine bodyPost_ret (v := .tuple #[.agg #[.int .i64 0, .int .i64 0, .slice none 0 0], .int .i64 0, .int .i64 1]) (by rw [results_cell3 (fn := Try.f9) (p := 4) (a := 5) (b := 6) (ty := 24) (by kernel_rfl)]; simp [go_sem, q1, q2]) rfl ?_
    exact ⟨rfl, HSS.out _ _ _ (HSS.out _ _ _ (HSS.out _ _ _ (bl_tr (HB2.out _ _) HB3.out)))⟩
  · have hd : decide (next < 0) = false := decide_eq_false h1
    have hd2 : decide (next > 2147483647) = true := decide_eq_true h2
    have hd3 : decide (2147483647 < next) = true := decide_eq_true h2
    clear h1 h2
    go_enter Try.func9, Try.ntmps9
    go_wp2_with (go_at_call 34; refine (hRS.out _ (HB2.out _ _)).mono ?_; rintro e w3 ⟨rfl, hb3⟩; have HB3 := hid hb3; have q1 := ((HA1.out _).stays hb3).cell; have q2 := ((HA1.out _).stays hb3).frozen; clear hb3)
    refine bodyPost_ret (v := .tuple #[.agg #[.int .i64 0, .int .i64 0, .slice none 0 0], .int .i64 0, .int .i64 1]) (by rw [results_cell3 (fn := Try.f9) (p := 4) (a := 5) (b := 6) (ty := 24) (by kernel_rfl)]; simp [go_sem, q1, q2]) rfl ?_
    exact ⟨rfl, HSS.out _ _ _ (HSS.out _ _ _ (HSS.out _ _ _ (bl_tr (HB2.out _ _) HB3.out)))⟩

end Go.Proofs.Ythijckdhndbdoaa

namespace Go.Proofs.Ythijckdhndbdoaa

open Go.RowKit
set_option linter.unusedVariables false
set_option linter.unusedSimpArgs false

def mcells (next : Int) (k : Nat) : List Value := (List.range k).flatMap fun (j : Nat) => [.int .i64 7, .int .i64 (next + j), .slice none 0 0]
theorem mcells_succ (next : Int) (k : Nat) : mcells next (k + 1) = mcells next k ++ [.int .i64 7, .int .i64 (next + k), .slice none 0 0] := by
  unfold mcells
  rw [List.range_succ, List.flatMap_append]
  rfl
theorem mcells_length (next : Int) : ∀ k : Nat, (mcells next k).length = k * 3
  | 0 => rfl
  | k + 1 => by rw [mcells_succ, List.length_append, mcells_length next k]; simp; omega
theorem mcells_at (next : Int) : ∀ (k i j : Nat), i < k → j < 3 → (mcells next k)[i * 3 + j]? = ([.int .i64 7, .int .i64 (next + i), .slice none 0 0] : List Value)[j]?
  | 0, i, j, hi, hj => absurd hi (Nat.not_lt_zero _)
  | k + 1, i, j, hi, hj => by
    rw [mcells_succ]
    by_cases h : i < k
    · rw [List.getElem?_append_left (by rw [mcells_length]; omega)]
      exact mcells_at next k i j h hj
    · obtain rfl : i = k := by omega
      rw [List.getElem?_append_right (by rw [mcells_length]; omega), mcells_length, Nat.add_sub_cancel_left]
/-- The loop's state. -/
structure Mst (w : World) (bx : List Value) (next : Int) (k : Nat) (v : Value) (wr : World) : Prop where
  bl : Below w.heap.size w wr
  sz : w.heap.size + 2 ≤ wr.heap.size
  a0 : Arr wr w.heap.size 26 bx
  a1 : Arr wr (w.heap.size + 1) 24 [.int .i64 0, .int .i64 0, .slice none 0 0]
  own : wr.ownsRow (w.heap.size + 2) 24 3 v k (mcells next k)
theorem Mst.stays {w : World} {bx : List Value} {next : Int} {k : Nat} {v : Value} {wr wz : World} (h : Mst w bx next k v wr) (hb : Below wr.heap.size wr wz) : Mst w bx next k v wz :=
  ⟨bl_tr h.bl hb, Nat.le_trans h.sz hb.size, h.a0.stays hb, h.a1.stays hb, own_stays h.own hb⟩
theorem Mst.app {w : World} {bx : List Value} {next : Int} {k : Nat} {v v' : Value} {w0 w1 w2 : World} (h : Mst w bx next k v w0) (hb : Below w0.heap.size w0 w1) (hown : w2.ownsRow (w.heap.size + 2) 24 3 v' (k + 1) (mcells next k ++ [.int .i64 7, .int .i64 (next + k), .slice none 0 0])) (hg : w1.grownBy w2 v.ownBlock) : Mst w bx next (k + 1) v' w2 := by
  have h1 := h.stays hb
  have hrow : ∀ b, v.ownBlock = some b → w.heap.size + 2 ≤ b := fun b hb => (h1.own.lt b hb).1
  have ne : ∀ b, b < w.heap.size + 2 → some b ≠ v.ownBlock := fun b hb e => by have := hrow b e.symm; omega
  exact ⟨h1.bl.grown hg (by have := h1.sz; omega) (fun b hb => by have := hrow b hb; omega), by have := hg.size; have := h1.sz; omega, h1.a0.grown hg (ne _ (by omega)), h1.a1.grown hg (ne _ (by omega)), by rw [mcells_succ]; exact hown⟩
theorem Mst.list {w : World} {bx : List Value} {next : Int} {k : Nat} {v : Value} {wr : World} (h : Mst w bx next k v wr) (hr : ∀ j : Nat, j < k → R64 (next + j)) (B : Nat) : TLx wr B 1 v (mets next k) := by
  by_cases h0 : k = 0
  · subst h0
    obtain ⟨p, c, rfl⟩ := own_form h.own
    exact .inr ⟨rfl, _, _, rfl⟩
  · obtain ⟨b, cap, rfl, h1, h2, h3⟩ := own_cell h.own h0
    refine .inl ⟨b, 0, cap, by rw [mets_length], trivial, by rw [mets_length]; exact h1, by rw [mets_length]; exact h2, fun i x hx => ?_⟩
    have hi : i < k := by have := (List.getElem?_eq_some_iff.1 hx).1; rw [mets_length] at this; exact this
    have hx2 : x = .mk 7 (next + i) [] := by
      unfold mets at hx
      rw [List.getElem?_map, List.getElem?_range hi] at hx
      exact (Option.some.inj hx).symm
    subst hx2
    refine ⟨[.int .i64 7, .int .i64 (next + i), .slice none 0 0], fun j u hu => ?_, ⟨_, rfl, (show R64 7 from ⟨by decide, by decide⟩), hr i hi, .inr ⟨rfl, _, _, rfl⟩⟩⟩
    have hj : j < 3 := (List.getElem?_eq_some_iff.1 hu).1
    rw [Nat.zero_add]
    exact h3 _ _ ((mcells_at next k i j hi hj).trans hu)

set_option maxHeartbeats 4000000 in
set_option maxRecDepth 100000 in
theorem refInstantiate_ok (w : World) (n g : Nat) (next : Int) (vs : List Value) (t : Tp) (hT : TAt w Any n vs t) (hc : t.cnt ≤ 1048576) (h : InstOk (g : Int) next t) : Calls Try.prog 9 #[.agg (.int .i64 (g : Int) :: vs).toArray, .int .i64 next] w fun e w' => ∃ vs' n', e = .returned (.tuple #[.agg vs'.toArray, .int .i64 (next + g), .int .i64 0]) ∧ TAt w' Any n' vs' (Tp.ren (mff next) t) ∧ Below w.heap.size w w' := by
  obtain ⟨a, c, rfl⟩ := hT.form
  have HB2 : Hid (∀ o o', Below w.heap.size w ((w.alloc o).alloc o')) := fun o o' => bl_alloc (bl_alloc (Below.refl _ _) _) _
  have hRS : Hid (∀ wz, Below w.heap.size w wz → Calls Try.prog 34 #[.agg #[.int .i64 (g : Int), .int .i64 t.k, .int .i64 t.n, .slice a t.ks.length c]] wz fun e w' => e = .returned (.bool (Tp.rightS g t)) ∧ Below wz.heap.size wz w') := fun wz hz => refRightScheme_any wz n g _ t (hT.below hz) hc
  have HA0 : Hid (∀ o, Arr ((w.alloc (.cells #[.int .i64 (g : Int), .int .i64 t.k, .int .i64 t.n, .slice a t.ks.length c] 26)).alloc o) w.heap.size 26 [.int .i64 (g : Int), .int .i64 t.k, .int .i64 t.n, .slice a t.ks.length c]) := fun o => Arr.stays ⟨heap_alloc_at _ _⟩ (bl_alloc (Below.refl _ _) _)
  have HA1 : Hid (∀ o, Arr ((w.alloc o).alloc (.cells #[.int .i64 0, .int .i64 0, .slice none 0 0] 24)) (w.heap.size + 1) 24 [.int .i64 0, .int .i64 0, .slice none 0 0]) := fun o => ⟨by have := heap_alloc_at (w.alloc o) (.cells #[.int .i64 0, .int .i64 0, .slice none 0 0] 24); rw [size_alloc] at this; exact this⟩
  obtain ⟨h1, h2, h3⟩ := h
  obtain ⟨hg0, hg1⟩ := rightS_g h1 hc
  have hgm : g ≤ 1048576 := by omega
  have hpm := put_mets h1 h2 h3 hgm
  have hU : Hid (∀ wz, Below w.heap.size w wz → Calls Try.prog 36 #[.agg #[.int .i64 t.k, .int .i64 t.n, .slice a t.ks.length c]] wz fun e w' => ∃ p c, e = .returned (.slice p g c) ∧ Ls w' Any (.slice p g c) (nums g) ∧ Below wz.heap.size wz w') := fun wz hz => by have h := refGens_any wz n _ t (hT.below hz) hc; rw [found_nums h1] at h; simp only [nums_length] at h; exact h
  have hPt : Hid (∀ wz fv tv, Below w.heap.size w wz → Ls wz Any fv (nums g) → TLx wz w.heap.size 1 tv (mets next g) → Calls Try.prog 35 #[.agg #[.int .i64 t.k, .int .i64 t.n, .slice a t.ks.length c], .int .i64 8, fv, tv] wz fun e w' => ∃ y a n' c, Tp.ren (mff next) t = y ∧ e = .returned (.agg #[.int .i64 y.k, .int .i64 y.n, .slice a y.ks.length c]) ∧ TAt w' (fun b => b < w.heap.size ∨ wz.heap.size ≤ b) n' [.int .i64 y.k, .int .i64 y.n, .slice a y.ks.length c] y ∧ Below wz.heap.size wz w') := by
    intro wz fv tv hz hf hl
    have hq := put12_any 8 fv tv (nums g) (mets next g) (by rw [nums_length, mets_length]) 1 w.heap.size n wz _ t (hT.below hz) hf hl hz.size (by rw [hpm, Tp.cnt_ren]; exact hc)
    refine hq.mono ?_
    rintro e w' ⟨vs', n', rfl, h1, h2⟩
    rw [hpm] at h1
    obtain ⟨a', c', rfl⟩ := h1.form
    exact ⟨_, a', n', c', rfl, rfl, h1, h2⟩
  rw [h1] at hRS
  have hd : decide (next < 0) = false := decide_eq_false (by omega)
  have hd2 : decide (next > 2147483647) = false := decide_eq_false (by omega)
  have hd3 : decide (2147483647 < next) = false := decide_eq_false (by omega)
  obtain ⟨m, hm⟩ : ∃ m, wrap64 (next + (g : Int)) = m := ⟨_, rfl⟩
  have hm2 : next + (g : Int) = m := by rw [← hm]; unfold wrap64; omega
  have hm3 : IntKind.i64.wrap (next + (g : Int)) = m := by rw [← hm, IntKind.wrap_i64]; unfold wrap64; omega
  have HN0 : Hid (0 ≤ next ∧ next ≤ 2147483647) := ⟨h2, h3⟩
  obtain ⟨i0, hi0, hz0, hz1, hz2⟩ := info_parts0 info_clT
  rw [hm2]
  clear hT hc h1 h2 h3 hg0 hg1 hm hm2 hpm
  generalize Tp.ren (mff next) t = yy at hPt ⊢
  go_enter Try.func9, Try.ntmps9
  go_wp2_with (go_at_call 34; refine (hRS.out _ (HB2.out _ _)).mono ?_; rintro e w3 ⟨rfl, hb3⟩; have HB3 := hid (bl_tr (HB2.out _ _) hb3); have H0 := hid ((HA0.out _).stays hb3); have H1 := hid ((HA1.out _).stays hb3); clear hb3)
  clear HB2 HA0 HA1 hRS
  have HM0 : Hid (Mst w [.int .i64 (g : Int), .int .i64 t.k, .int .i64 t.n, .slice a t.ks.length c] next 0 (.slice none 0 0) w3) := ⟨HB3.out, by have := H1.out.lt; omega, H0.out, H1.out, World.ownsRow_nil _ _ _ _⟩
  clear HB3 H0 H1
  go_loopw [7, 8] (fun v7 v8 wr => ∃ k : Nat, v8 = .int .i64 k ∧ k ≤ g ∧ Hid (Mst w [.int .i64 (g : Int), .int .i64 t.k, .int .i64 t.n, .slice a t.ks.length c] next k v7 wr)) (fun _ v8 _ => g - (intOf v8).toNat)
  case atStart => exact ⟨0, rfl, Nat.zero_le _, HM0⟩
  case round =>
    obtain ⟨k, rfl, hk, hM⟩ := hrel
    clear HM0
    obtain ⟨ap, cp, rfl⟩ := own_form hM.out.own
    have p0 := hM.out.a0.cell
    by_cases hlt : k < g
    · have hw : IntKind.i64.wrap (next + (k : Int)) = next + k := by rw [IntKind.wrap_i64]; have := HN0.out; omega
      clear hPt hU
      go_wp2_with (at_builtin; refine wpList_append_own _ rfl _ _ 22 rfl (w.heap.size + 2) 24 i0 (.agg #[.int .i64 0, .int .i64 0, .slice none 0 0]) 3 40 Try.underlying22 hi0 hz0 hz1 hz2 rfl (by decide) _ _ _ rfl (hM.out.own.alloc _) ⟨wr.heap.size, 0, none⟩ 1 1 [.int .i64 7, .int .i64 (next + k), .slice none 0 0] rfl rfl ?c1 ?c2 ?c3 ?c4 ?c5 ?_)
      case c1 =>
        intro j u hj
        match j, hj with
        | 0, hj => simp at hj; subst hj; simp [Addr.add]
        | 1, hj => simp at hj; subst hj; simp [Addr.add]
        | 2, hj => simp at hj; subst hj; simp [Addr.add]
        | j + 3, hj => simp at hj
      case c2 => intro u hu; simp at hu; rcases hu with rfl | rfl | rfl <;> rfl
      case c3 => unfold maxLen; omega
      case c4 => omega
      case c5 => have := hM.out.sz; simp; omega
      intro v' w2 hown' hgrow _
      have HN := hid (Mst.app hM.out (bl_alloc (Below.refl _ _) _) hown' hgrow)
      obtain ⟨va, vc, rfl⟩ := own_form hown'
      clear hown' hgrow
      go_wp2
      go_roundw
      case rel => exact ⟨k + 1, by go_num, by omega, HN⟩
      case measure => simp [intOf]; omega
    · obtain rfl : k = g := by omega
      have HTL : Hid (TLx wr.drew w.heap.size 1 (.slice ap k cp) (mets next k)) := (hM.out.list (fun j hj => by have := HN0.out; unfold R64; omega) _).below (Below.refl _ _).drew
      have hs0 : Hid ((∀ j : Nat, wr.drew.cell? ⟨w.heap.size, j, none⟩ = [.int .i64 (k : Int), .int .i64 t.k, .int .i64 t.n, .slice a t.ks.length c][j]?) ∧ SI w w.heap.size (w.heap.size + 1) 24 wr.drew) := ⟨hM.out.a0.cell, ⟨_, _, _, hM.out.a1.stays (Below.refl _ _).drew⟩, hM.out.a0.lt, by omega, by omega, hM.out.bl.drew⟩
      have HLW : Hid (w.heap.size + 1 < wr.drew.heap.size) := hM.out.a1.lt
      clear hM
      go_wp2
      clear p0
      go_region_held (fun w' => (∀ j : Nat, w'.cell? ⟨w.heap.size, j, none⟩ = [.int .i64 (k : Int), .int .i64 t.k, .int .i64 t.n, .slice a t.ks.length c][j]?) ∧ SI w w.heap.size (w.heap.size + 1) 24 w') (first | exact hs0.out | exact keepI (by assumption) (by assumption) | (with_reducible (refine keepS (keepS (keepS ?_)))); assumption) (first | (go_at_call 36; refine (hU.out _ (beloI (by assumption))).mono ?_; rintro e wa ⟨pa, ca, rfl, hla, hba⟩; have HLA := hid hla; have HLB := hid (HTL.out.below hba); clear hla) | (go_at_call 35; refine (hPt.out _ _ _ (beloI (by assumption)) HLA.out HLB.out).mono ?_; rintro e wb ⟨y, a8, n8, c8, hy8, rfl, hT8, hb8⟩; have HT8 := hid hT8; have HY8 := hid hy8; obtain ⟨u0, u1, u2, hA8⟩ := arrI (by assumption); have q8 := (hA8.stays hb8).cell; have q9 := (hA8.stays hb8).frozen; clear hA8 hT8 hy8))
      all_goals go_wp2
      all_goals refine bodyPost_ret (v := .tuple #[.agg #[.int .i64 y.k, .int .i64 y.n, .slice a8 y.ks.length c8], .int .i64 m, .int .i64 0]) (by rw [results_cell3 (fn := Try.f9) (p := 4) (a := 5) (b := 6) (ty := 24) (by kernel_rfl)]; simp [go_sem, q8, q9]) rfl ?_
      all_goals have hK : ∀ (W : World) j u, Keeps (fun b => b ≠ w.heap.size + 1) W (W.setCell ⟨w.heap.size + 1, j, none⟩ u) := fun W j u => Keeps.set (K := fun b => b ≠ w.heap.size + 1) (p := ⟨w.heap.size + 1, j, none⟩) (fun h => h rfl) u
      all_goals have hlt : w.heap.size + 1 < wa.heap.size := Nat.lt_of_lt_of_le HLW.out hba.size
      all_goals refine ⟨[_, _, _], n8, rfl, ?_, beloI (by assumption)⟩
      all_goals rw [HY8.out]
      all_goals exact (HT8.out.move (K' := fun b => b ≠ w.heap.size + 1) (Keeps.refl _ _) (fun b hb => by show b ≠ _; omega)).move (((hK _ _ _).trans (hK _ _ _)).trans (hK _ _ _)) (fun _ _ => trivial)

end Go.Proofs.Ythijckdhndbdoaa

namespace Go.Proofs.Ythijckdhndbdoaa

open Go.RowKit
set_option linter.unusedVariables false
set_option linter.unusedSimpArgs false

open Classical in
/-- What Instantiate answers. -/
noncomputable def instOf (g next : Int) (t : Tp) : Tp × Int × Int := if InstOk g next t then (Tp.ren (mff next) t, next + g, 0) else (Tp.zero, 0, 1)
theorem Instantiate_any (w : World) (n : Nat) (g next : Int) (vs : List Value) (t : Tp) (hT : TAt w Any n vs t) (hc : t.cnt ≤ 1048576) : Calls Try.prog 8 #[.agg (.int .i64 g :: vs).toArray, .int .i64 next] w fun e w' => ∃ a n' c, e = .returned (.tuple #[.agg #[.int .i64 (instOf g next t).1.k, .int .i64 (instOf g next t).1.n, .slice a (instOf g next t).1.ks.length c], .int .i64 (instOf g next t).2.1, .int .i64 (instOf g next t).2.2]) ∧ TAt w' Any n' [.int .i64 (instOf g next t).1.k, .int .i64 (instOf g next t).1.n, .slice a (instOf g next t).1.ks.length c] (instOf g next t).1 ∧ Below w.heap.size w w' := by
  unfold instOf
  by_cases h : InstOk g next t
  · simp only [if_pos h]
    refine (Instantiate_ok w n g next vs t hT hc h).mono ?_
    rintro e w' ⟨vs', n', rfl, h1, h2⟩
    obtain ⟨a', c', rfl⟩ := h1.form
    exact ⟨a', n', c', rfl, h1.any, h2⟩
  · simp only [if_neg h]
    refine (Instantiate_bad w n g next vs t hT hc h).mono ?_
    rintro e w' ⟨rfl, h2⟩
    exact ⟨none, 1, 0, rfl, TAt.zero _ _, h2⟩
theorem refInstantiate_any (w : World) (n : Nat) (g next : Int) (vs : List Value) (t : Tp) (hT : TAt w Any n vs t) (hc : t.cnt ≤ 1048576) : Calls Try.prog 9 #[.agg (.int .i64 g :: vs).toArray, .int .i64 next] w fun e w' => ∃ a n' c, e = .returned (.tuple #[.agg #[.int .i64 (instOf g next t).1.k, .int .i64 (instOf g next t).1.n, .slice a (instOf g next t).1.ks.length c], .int .i64 (instOf g next t).2.1, .int .i64 (instOf g next t).2.2]) ∧ TAt w' Any n' [.int .i64 (instOf g next t).1.k, .int .i64 (instOf g next t).1.n, .slice a (instOf g next t).1.ks.length c] (instOf g next t).1 ∧ Below w.heap.size w w' := by
  unfold instOf
  by_cases h : InstOk g next t
  · obtain ⟨m, rfl⟩ : ∃ m : Nat, g = m := ⟨g.toNat, by have := rightS_g h.1 hc; omega⟩
    simp only [if_pos h]
    refine (refInstantiate_ok w n m next vs t hT hc h).mono ?_
    rintro e w' ⟨vs', n', rfl, h1, h2⟩
    obtain ⟨a', c', rfl⟩ := h1.form
    exact ⟨a', n', c', rfl, h1, h2⟩
  · simp only [if_neg h]
    refine (refInstantiate_bad w n g next vs t hT hc h).mono ?_
    rintro e w' ⟨rfl, h2⟩
    exact ⟨none, 1, 0, rfl, TAt.zero _ _, h2⟩

set_option maxHeartbeats 4000000 in
set_option maxRecDepth 100000 in
theorem inst_walk (w : World) (n N : Nat) (gi next : Int) (vs : List Value) (lv : Value) (t : Tp) (l : List Tp) (hT : TAt w Any n vs t) (hl : TAtL w Any N lv l) (hc : t.cnt ≤ 1048576) (hg : R64 gi) : Calls Try.prog 3 #[.agg (.int .i64 gi :: vs).toArray, .int .i64 next, lv] w fun e w' => e = .returned (.bool true) ∧ Below w.heap.size w w' := by
  obtain ⟨a, c, rfl⟩ := hT.form
  obtain ⟨la, lc, rfl, hlm⟩ := hl.form
  have hI : Hid (∀ wz, Below w.heap.size w wz → Calls Try.prog 8 #[.agg #[.int .i64 gi, .int .i64 t.k, .int .i64 t.n, .slice a t.ks.length c], .int .i64 next] wz fun e w' => ∃ a n' c, e = .returned (.tuple #[.agg #[.int .i64 (instOf gi next t).1.k, .int .i64 (instOf gi next t).1.n, .slice a (instOf gi next t).1.ks.length c], .int .i64 (instOf gi next t).2.1, .int .i64 (instOf gi next t).2.2]) ∧ TAt w' Any n' [.int .i64 (instOf gi next t).1.k, .int .i64 (instOf gi next t).1.n, .slice a (instOf gi next t).1.ks.length c] (instOf gi next t).1 ∧ Below wz.heap.size wz w') := fun wz hz => Instantiate_any wz n gi next _ t (hT.below hz) hc
  have hJ : Hid (∀ wz, Below w.heap.size w wz → Calls Try.prog 9 #[.agg #[.int .i64 gi, .int .i64 t.k, .int .i64 t.n, .slice a t.ks.length c], .int .i64 next] wz fun e w' => ∃ a n' c, e = .returned (.tuple #[.agg #[.int .i64 (instOf gi next t).1.k, .int .i64 (instOf gi next t).1.n, .slice a (instOf gi next t).1.ks.length c], .int .i64 (instOf gi next t).2.1, .int .i64 (instOf gi next t).2.2]) ∧ TAt w' Any n' [.int .i64 (instOf gi next t).1.k, .int .i64 (instOf gi next t).1.n, .slice a (instOf gi next t).1.ks.length c] (instOf gi next t).1 ∧ Below wz.heap.size wz w') := fun wz hz => refInstantiate_any wz n gi next _ t (hT.below hz) hc
  have hA : Hid (∀ wz, Below w.heap.size w wz → Calls Try.prog 10 #[.agg #[.int .i64 gi, .int .i64 t.k, .int .i64 t.n, .slice a t.ks.length c], .slice la l.length lc] wz fun e w' => ∃ a n' c, e = .returned (.tuple #[.agg #[.int .i64 (Tp.insta gi t l).1.k, .int .i64 (Tp.insta gi t l).1.n, .slice a (Tp.insta gi t l).1.ks.length c], .int .i64 (Tp.insta gi t l).2]) ∧ TAt w' Any n' [.int .i64 (Tp.insta gi t l).1.k, .int .i64 (Tp.insta gi t l).1.n, .slice a (Tp.insta gi t l).1.ks.length c] (Tp.insta gi t l).1 ∧ Below wz.heap.size wz w') := by
    intro wz hz
    refine (Instance_any wz n N gi _ t _ l (hT.below hz) hc (hl.below hz) hg).mono ?_
    rintro e w' ⟨vs', n', rfl, h1, h2⟩
    obtain ⟨a', c', rfl⟩ := h1.form
    exact ⟨a', n', c', rfl, h1.any, h2⟩
  have hB : Hid (∀ wz, Below w.heap.size w wz → Calls Try.prog 11 #[.agg #[.int .i64 gi, .int .i64 t.k, .int .i64 t.n, .slice a t.ks.length c], .slice la l.length lc] wz fun e w' => ∃ a n' c, e = .returned (.tuple #[.agg #[.int .i64 (Tp.insta gi t l).1.k, .int .i64 (Tp.insta gi t l).1.n, .slice a (Tp.insta gi t l).1.ks.length c], .int .i64 (Tp.insta gi t l).2]) ∧ TAt w' Any n' [.int .i64 (Tp.insta gi t l).1.k, .int .i64 (Tp.insta gi t l).1.n, .slice a (Tp.insta gi t l).1.ks.length c] (Tp.insta gi t l).1 ∧ Below wz.heap.size wz w') := by
    intro wz hz
    refine (refInstance_any wz n N gi _ t _ l (hT.below hz) hc (hl.below hz) hg).mono ?_
    rintro e w' ⟨vs', n', rfl, h1, h2⟩
    obtain ⟨a', c', rfl⟩ := h1.form
    exact ⟨a', n', c', rfl, h1, h2⟩
  have hS : Hid (∀ wz (x : Tp) a1 n1 c1 a2 n2 c2, TAt wz Any n1 [.int .i64 x.k, .int .i64 x.n, .slice a1 x.ks.length c1] x → TAt wz Any n2 [.int .i64 x.k, .int .i64 x.n, .slice a2 x.ks.length c2] x → Calls Try.prog 12 #[.agg #[.int .i64 x.k, .int .i64 x.n, .slice a1 x.ks.length c1], .agg #[.int .i64 x.k, .int .i64 x.n, .slice a2 x.ks.length c2]] wz fun e w' => e = .returned (.bool true) ∧ Below wz.heap.size wz w') := fun wz x a1 n1 c1 a2 n2 c2 h1 h2 => (refSame_any wz n1 n2 _ _ x x h1 h2).mono fun e w' ⟨h3, h4⟩ => ⟨by rw [h3]; simp [cmp_self], h4⟩
  have hAl : Hid (∀ wz, Calls Try.prog 13 #[] wz fun e w' => e = .returned (.bool true) ∧ Below wz.heap.size wz w') := fun wz => alive12 wz
  have HB0 : Hid (∀ o, Below w.heap.size w (w.alloc o)) := fun o => bl_alloc (Below.refl _ _) _
  have X0 : Hid (Arr (w.alloc (.cells #[.int .i64 gi, .int .i64 t.k, .int .i64 t.n, .slice a t.ks.length c] 26)) w.heap.size 26 [.int .i64 gi, .int .i64 t.k, .int .i64 t.n, .slice a t.ks.length c]) := ⟨heap_alloc_at _ _⟩
  clear hT hl hc hg
  generalize (instOf gi next t).1 = y at hI hJ
  generalize (instOf gi next t).2.1 = nx at hI hJ
  generalize (instOf gi next t).2.2 = er at hI hJ
  generalize (Tp.insta gi t l).1 = z at hA hB
  generalize (Tp.insta gi t l).2 = eq at hA hB
  have e1 : (nx == nx) = true := by simp
  have e2 : (er == er) = true := by simp
  have e3 : (eq == eq) = true := by simp
  go_enter Try.func3, Try.ntmps3
  go_upto_region 2 with (go_at_call 8; refine (hI.out _ (HB0.out _)).mono ?_; rintro e v1 ⟨a1, n1, c1, rfl, hT1, hb1⟩)
  have F1 : Hid (Below w.heap.size w (v1.alloc (.cells #[.int .i64 y.k, .int .i64 y.n, .slice a1 y.ks.length c1] 24))) := bl_alloc (bl_tr (HB0.out _) hb1) _
  have X1 : Hid (Arr (v1.alloc (.cells #[.int .i64 y.k, .int .i64 y.n, .slice a1 y.ks.length c1] 24)) w.heap.size 26 [.int .i64 gi, .int .i64 t.k, .int .i64 t.n, .slice a t.ks.length c]) := (X0.out.stays hb1).stays (bl_alloc (Below.refl _ _) _)
  have Y1_1 : Hid (Arr (v1.alloc (.cells #[.int .i64 y.k, .int .i64 y.n, .slice a1 y.ks.length c1] 24)) v1.heap.size 24 [.int .i64 y.k, .int .i64 y.n, .slice a1 y.ks.length c1]) := ⟨heap_alloc_at _ _⟩
  have T1_1 : Hid (TAt (v1.alloc (.cells #[.int .i64 y.k, .int .i64 y.n, .slice a1 y.ks.length c1] 24)) Any n1 [.int .i64 y.k, .int .i64 y.n, .slice a1 y.ks.length c1] y) := hT1.below (bl_alloc (Below.refl _ _) _)
  clear hb1 hT1 X0
  generalize (v1.alloc (.cells #[.int .i64 y.k, .int .i64 y.n, .slice a1 y.ks.length c1] 24)) = W1 at F1 X1 Y1_1 T1_1 ⊢
  generalize v1.heap.size = d1 at Y1_1 ⊢
  have x1 := X1.out.cell
  go_upto_region 3 with (go_at_call 9; refine (hJ.out _ F1.out).mono ?_; rintro e v2 ⟨a2, n2, c2, rfl, hT2, hb2⟩)
  have F2 : Hid (Below w.heap.size w (v2.alloc (.cells #[.int .i64 y.k, .int .i64 y.n, .slice a2 y.ks.length c2] 24))) := bl_alloc (bl_tr F1.out hb2) _
  have X2 : Hid (Arr (v2.alloc (.cells #[.int .i64 y.k, .int .i64 y.n, .slice a2 y.ks.length c2] 24)) w.heap.size 26 [.int .i64 gi, .int .i64 t.k, .int .i64 t.n, .slice a t.ks.length c]) := (X1.out.stays hb2).stays (bl_alloc (Below.refl _ _) _)
  have Y2_2 : Hid (Arr (v2.alloc (.cells #[.int .i64 y.k, .int .i64 y.n, .slice a2 y.ks.length c2] 24)) v2.heap.size 24 [.int .i64 y.k, .int .i64 y.n, .slice a2 y.ks.length c2]) := ⟨heap_alloc_at _ _⟩
  have T2_2 : Hid (TAt (v2.alloc (.cells #[.int .i64 y.k, .int .i64 y.n, .slice a2 y.ks.length c2] 24)) Any n2 [.int .i64 y.k, .int .i64 y.n, .slice a2 y.ks.length c2] y) := hT2.below (bl_alloc (Below.refl _ _) _)
  have Y1_2 : Hid (Arr (v2.alloc (.cells #[.int .i64 y.k, .int .i64 y.n, .slice a2 y.ks.length c2] 24)) d1 24 [.int .i64 y.k, .int .i64 y.n, .slice a1 y.ks.length c1]) := (Y1_1.out.stays hb2).stays (bl_alloc (Below.refl _ _) _)
  have T1_2 : Hid (TAt (v2.alloc (.cells #[.int .i64 y.k, .int .i64 y.n, .slice a2 y.ks.length c2] 24)) Any n1 [.int .i64 y.k, .int .i64 y.n, .slice a1 y.ks.length c1] y) := (T1_1.out.below hb2).below (bl_alloc (Below.refl _ _) _)
  clear hb2 hT2 X1 F1 x1 Y1_1 T1_1
  generalize (v2.alloc (.cells #[.int .i64 y.k, .int .i64 y.n, .slice a2 y.ks.length c2] 24)) = W2 at F2 X2 Y2_2 T2_2 Y1_2 T1_2 ⊢
  generalize v2.heap.size = d2 at Y2_2 ⊢
  have x2 := X2.out.cell
  go_upto_region 4 with (go_at_call 10; refine (hA.out _ F2.out).mono ?_; rintro e v3 ⟨a3, n3, c3, rfl, hT3, hb3⟩)
  have F3 : Hid (Below w.heap.size w (v3.alloc (.cells #[.int .i64 z.k, .int .i64 z.n, .slice a3 z.ks.length c3] 24))) := bl_alloc (bl_tr F2.out hb3) _
  have X3 : Hid (Arr (v3.alloc (.cells #[.int .i64 z.k, .int .i64 z.n, .slice a3 z.ks.length c3] 24)) w.heap.size 26 [.int .i64 gi, .int .i64 t.k, .int .i64 t.n, .slice a t.ks.length c]) := (X2.out.stays hb3).stays (bl_alloc (Below.refl _ _) _)
  have Y3_3 : Hid (Arr (v3.alloc (.cells #[.int .i64 z.k, .int .i64 z.n, .slice a3 z.ks.length c3] 24)) v3.heap.size 24 [.int .i64 z.k, .int .i64 z.n, .slice a3 z.ks.length c3]) := ⟨heap_alloc_at _ _⟩
  have T3_3 : Hid (TAt (v3.alloc (.cells #[.int .i64 z.k, .int .i64 z.n, .slice a3 z.ks.length c3] 24)) Any n3 [.int .i64 z.k, .int .i64 z.n, .slice a3 z.ks.length c3] z) := hT3.below (bl_alloc (Below.refl _ _) _)
  have Y1_3 : Hid (Arr (v3.alloc (.cells #[.int .i64 z.k, .int .i64 z.n, .slice a3 z.ks.length c3] 24)) d1 24 [.int .i64 y.k, .int .i64 y.n, .slice a1 y.ks.length c1]) := (Y1_2.out.stays hb3).stays (bl_alloc (Below.refl _ _) _)
  have T1_3 : Hid (TAt (v3.alloc (.cells #[.int .i64 z.k, .int .i64 z.n, .slice a3 z.ks.length c3] 24)) Any n1 [.int .i64 y.k, .int .i64 y.n, .slice a1 y.ks.length c1] y) := (T1_2.out.below hb3).below (bl_alloc (Below.refl _ _) _)
  have Y2_3 : Hid (Arr (v3.alloc (.cells #[.int .i64 z.k, .int .i64 z.n, .slice a3 z.ks.length c3] 24)) d2 24 [.int .i64 y.k, .int .i64 y.n, .slice a2 y.ks.length c2]) := (Y2_2.out.stays hb3).stays (bl_alloc (Below.refl _ _) _)
  have T2_3 : Hid (TAt (v3.alloc (.cells #[.int .i64 z.k, .int .i64 z.n, .slice a3 z.ks.length c3] 24)) Any n2 [.int .i64 y.k, .int .i64 y.n, .slice a2 y.ks.length c2] y) := (T2_2.out.below hb3).below (bl_alloc (Below.refl _ _) _)
  clear hb3 hT3 X2 F2 x2 Y1_2 T1_2 Y2_2 T2_2
  generalize (v3.alloc (.cells #[.int .i64 z.k, .int .i64 z.n, .slice a3 z.ks.length c3] 24)) = W3 at F3 X3 Y3_3 T3_3 Y1_3 T1_3 Y2_3 T2_3 ⊢
  generalize v3.heap.size = d3 at Y3_3 ⊢
  have x3 := X3.out.cell
  go_upto_region 5 with (go_at_call 11; refine (hB.out _ F3.out).mono ?_; rintro e v4 ⟨a4, n4, c4, rfl, hT4, hb4⟩)
  have F4 : Hid (Below w.heap.size w (v4.alloc (.cells #[.int .i64 z.k, .int .i64 z.n, .slice a4 z.ks.length c4] 24))) := bl_alloc (bl_tr F3.out hb4) _
  have X4 : Hid (Arr (v4.alloc (.cells #[.int .i64 z.k, .int .i64 z.n, .slice a4 z.ks.length c4] 24)) w.heap.size 26 [.int .i64 gi, .int .i64 t.k, .int .i64 t.n, .slice a t.ks.length c]) := (X3.out.stays hb4).stays (bl_alloc (Below.refl _ _) _)
  have Y4_4 : Hid (Arr (v4.alloc (.cells #[.int .i64 z.k, .int .i64 z.n, .slice a4 z.ks.length c4] 24)) v4.heap.size 24 [.int .i64 z.k, .int .i64 z.n, .slice a4 z.ks.length c4]) := ⟨heap_alloc_at _ _⟩
  have T4_4 : Hid (TAt (v4.alloc (.cells #[.int .i64 z.k, .int .i64 z.n, .slice a4 z.ks.length c4] 24)) Any n4 [.int .i64 z.k, .int .i64 z.n, .slice a4 z.ks.length c4] z) := hT4.below (bl_alloc (Below.refl _ _) _)
  have Y1_4 : Hid (Arr (v4.alloc (.cells #[.int .i64 z.k, .int .i64 z.n, .slice a4 z.ks.length c4] 24)) d1 24 [.int .i64 y.k, .int .i64 y.n, .slice a1 y.ks.length c1]) := (Y1_3.out.stays hb4).stays (bl_alloc (Below.refl _ _) _)
  have T1_4 : Hid (TAt (v4.alloc (.cells #[.int .i64 z.k, .int .i64 z.n, .slice a4 z.ks.length c4] 24)) Any n1 [.int .i64 y.k, .int .i64 y.n, .slice a1 y.ks.length c1] y) := (T1_3.out.below hb4).below (bl_alloc (Below.refl _ _) _)
  have Y2_4 : Hid (Arr (v4.alloc (.cells #[.int .i64 z.k, .int .i64 z.n, .slice a4 z.ks.length c4] 24)) d2 24 [.int .i64 y.k, .int .i64 y.n, .slice a2 y.ks.length c2]) := (Y2_3.out.stays hb4).stays (bl_alloc (Below.refl _ _) _)
  have T2_4 : Hid (TAt (v4.alloc (.cells #[.int .i64 z.k, .int .i64 z.n, .slice a4 z.ks.length c4] 24)) Any n2 [.int .i64 y.k, .int .i64 y.n, .slice a2 y.ks.length c2] y) := (T2_3.out.below hb4).below (bl_alloc (Below.refl _ _) _)
  have Y3_4 : Hid (Arr (v4.alloc (.cells #[.int .i64 z.k, .int .i64 z.n, .slice a4 z.ks.length c4] 24)) d3 24 [.int .i64 z.k, .int .i64 z.n, .slice a3 z.ks.length c3]) := (Y3_3.out.stays hb4).stays (bl_alloc (Below.refl _ _) _)
  have T3_4 : Hid (TAt (v4.alloc (.cells #[.int .i64 z.k, .int .i64 z.n, .slice a4 z.ks.length c4] 24)) Any n3 [.int .i64 z.k, .int .i64 z.n, .slice a3 z.ks.length c3] z) := (T3_3.out.below hb4).below (bl_alloc (Below.refl _ _) _)
  clear hb4 hT4 X3 F3 x3 Y1_3 T1_3 Y2_3 T2_3 Y3_3 T3_3
  generalize (v4.alloc (.cells #[.int .i64 z.k, .int .i64 z.n, .slice a4 z.ks.length c4] 24)) = W4 at F4 X4 Y4_4 T4_4 Y1_4 T1_4 Y2_4 T2_4 Y3_4 T3_4 ⊢
  generalize v4.heap.size = d4 at Y4_4 ⊢
  have x4 := X4.out.cell
  have y1 := Y1_4.out.cell
  have y2 := Y2_4.out.cell
  go_wp2_with (first | (go_at_call 12; refine (hS.out _ _ _ _ _ _ _ _ T1_4.out T2_4.out).mono ?_; rintro e v5 ⟨rfl, hb5⟩; have y3 := (Y3_4.out.stays hb5).cell; have y4 := (Y4_4.out.stays hb5).cell; have T3_5 := hid (T3_4.out.below hb5); have T4_5 := hid (T4_4.out.below hb5); have F5 := hid (bl_tr F4.out hb5); clear hb5) | (go_at_call 12; refine (hS.out _ _ _ _ _ _ _ _ T3_5.out T4_5.out).mono ?_; rintro e v6 ⟨rfl, hb6⟩; have F6 := hid (bl_tr F5.out hb6); clear hb6) | (go_at_call 13; refine (hAl.out _).mono ?_; rintro e v7 ⟨rfl, hb7⟩; have F7 := hid (bl_tr F6.out hb7); clear hb7))
  go_ret
  exact ⟨rfl, F7.out⟩

end Go.Proofs.Ythijckdhndbdoaa

