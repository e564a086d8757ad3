/- A walker that writes: WriteString, WriteByte, String; Itoa. -/
import Derived.Shelf.Strings.Builder1
import Derived.Lib.SmallJoins
import Derived.Test.YtfeppchgmobfpaaGreatDoorShelfItoa
import Derived.Test.YtfeppchgmobfpaaGreatDoorTgW1
namespace Go.Proofs.YtfeppchgmobfpaaGreatDoor
open Go.RowKit
set_option linter.unusedVariables false
set_option linter.unusedSimpArgs false

abbrev WT : TypeId := 69
abbrev U8 : TypeId := 5
theorem wpList_app2 {P : Program} {ops : Array Oper} {rest : List Oper} {o : Oper} {a : Act} {w : World} {Q : Exit → Act → World → Prop} (hgd : o.guard = none) (s x : Operand) (t u : TypeId)
    (ho : o.op = .call { callee := .builtin .append, args := #[s, x], argTypes := #[t, u] }) (v vx : Value) (hs : a.eval s = v) (hx : a.eval x = vx) (v' : Value) (w' : World)
    (hr : (Builtin.append_ #[t, u] o.type #[v, vx]).run P w = .ok v' w') (h : wpList P ops Q rest (a.put o.dst v') w') : wpList P ops Q (o :: rest) a w := by
  refine wpList_plain hgd fun _ hK => ?_
  unfold Oper.wp execOp
  simp only [ho, resolve, invoke, builtin, Sem.run_bind, Sem.run_pure, Result.andThen_ok, List.map_toArray, List.map_cons, List.map_nil, hs, hx, hr]
  exact hK _ _ h
theorem append_str2 {P : Program} (w : World) (base : Nat) (t u ty e : TypeId) (i : TypeInfo) (ht : P.underlying t = some (.slice e)) (hu : P.underlying u = some .string) (hi : P.info? e = some i) (hz : i.zero = some (.int .u8 0))
    (hsize : i.size = 1) (hby : i.bytes = 1) (v : Value) (n : Nat) (xs : List Value) (hown : w.ownsRow base e 1 v n xs) (s : ByteArray) (hb : n + s.size ≤ 140737488355328) (hbase : base ≤ w.heap.size) :
    ∃ v' w', (Builtin.append_ #[t, u] ty #[v, .string s]).run P w = .ok v' w' ∧ w'.ownsRow base e 1 v' (n + s.size) (xs ++ Lib.strCells s) ∧ w.grownBy w' v.ownBlock ∧ Fresh w v v' := by
  have h63 : n + s.size ≤ maxLen := by unfold maxLen; omega
  obtain ⟨v', w', hr, h2, h3, -⟩ := Lib.run_append_own_string (P := P) w base t u ty e i ht hu hi hz hsize hby v n xs hown s h63 hb hbase
  refine ⟨v', w', hr, h2, h3, ?_⟩
  have hxl : xs.length = n := by simpa using hown.1
  rcases hown.2 with ⟨hv, hn⟩ | ⟨g, cap, cur, hv, hbg, hg, hnc, hcm, hcs, htake⟩
  · have ho : w.ownsRow w.heap.size e 1 v n xs := ⟨hown.1, .inl ⟨hv, hn⟩⟩
    obtain ⟨v2, w2, hr2, h22, -, -⟩ := Lib.run_append_own_string (P := P) w w.heap.size t u ty e i ht hu hi hz hsize hby v n xs ho s h63 hb (Nat.le_refl _)
    rw [hr] at hr2
    injection hr2 with e1 e2
    subst e1
    exact .inr fun k hk => (h22.lt k hk).1
  · subst hv
    by_cases hroom : n + s.size ≤ cap
    · have hcs' : cur.size = cap := by simpa using hcs
      rw [Lib.run_append_room_string (P := P) w t u ty e i ht hu hi hsize g n cap cur hg s hroom (by omega)] at hr
      injection hr with e1 e2
      subst e1
      exact .inl rfl
    · rw [Lib.run_append_grow_string (P := P) w t u ty e i (.int .u8 0) ht hu hi hz ⟨g, 0, none⟩ n cap xs (by rw [hsize]; simpa using hxl) (hown.cells (g := g) rfl) s (by omega) (by omega) (by rw [hby]; exact growslice_fits (by omega) (by omega))] at hr
      injection hr with e1 e2
      subst e1
      refine .inr fun k hk => ?_
      simp [Value.ownBlock] at hk
      omega
theorem infoByte : (Tryz.prog.info? 5).map (fun i => (i.zero, i.size, i.bytes)) = some (some (.int .u8 0), 1, 1) := by kernel_rfl
theorem sizeBuilder : (Tryz.prog.info? 59).map (·.size) = some 2 := by kernel_rfl
theorem liesWriter : liesAt Tryz.prog Tryz.prog.depth 69 (6 / Tryz.prog.cellsOf 69) 0 59 1 = true := by kernel_rfl

set_option maxHeartbeats 1000000 in
set_option maxRecDepth 100000 in
theorem copyCheck_used (b : Nat) (w : World) (h0 : w.cell? ⟨b, 0, none⟩ = some (.pointer (some ⟨b, 0, none⟩))) :
    Calls Tryz.prog 104 #[.pointer (some ⟨b, 0, none⟩)] w fun e w' => e = .returned (.tuple #[]) ∧ w' = w := by
  obtain ⟨j, hj, _⟩ := Option.map_eq_some_iff.1 sizeBuilder
  go_enter Tryz.func104, Tryz.ntmps104
  go_wp2
  rw [Lib.run_neq_ptr_same w _ Tryz.underlying56 hj]
  go_wp2
  go_end0
  exact ⟨rfl, rfl⟩

set_option maxHeartbeats 1000000 in
set_option maxRecDepth 100000 in
theorem copyCheck_fresh (b : Nat) (w : World) (h0 : w.cell? ⟨b, 0, none⟩ = some (.pointer none)) (hsh : w.shape? b = some (69, 6)) (hfz : w.frozen? ⟨b, 0, none⟩ = false) :
    Calls Tryz.prog 104 #[.pointer (some ⟨b, 0, none⟩)] w fun e w' => e = .returned (.tuple #[]) ∧ w' = w.setCell ⟨b, 0, none⟩ (.pointer (some ⟨b, 0, none⟩)) := by
  obtain ⟨j, hj, hjs⟩ := Option.map_eq_some_iff.1 sizeBuilder
  go_enter Tryz.func104, Tryz.ntmps104
  go_wp2
  rw [Lib.run_to_unsafe w ⟨b, 0, none⟩ Tryz.underlying56 Tryz.underlying174 hj (by rw [hjs]; decide) hsh (Nat.zero_lt_succ 5)]
  simp only [Result.andThen]
  rw [Oper.upon_value]
  go_wp2
  rw [run_callFunc_extern Tryz.func141 (by kernel_rfl) (by kernel_rfl) (by kernel_rfl) (e := Extern.AbiNoEscape.same) (by kernel_rfl)]
  rw [Lib.run_noEscape]
  simp only [Result.andThen]
  rw [Oper.upon_value]
  go_wp2
  rw [Lib.run_from_unsafe w ⟨b, 0, none⟩ Tryz.underlying174 Tryz.underlying56 hj hsh liesWriter]
  simp only [Result.andThen]
  rw [Oper.upon_value]
  go_wp2
  go_end0
  exact ⟨rfl, rfl⟩
def Tab (W : World) : Prop := Lib.TabIs Tryz.prog W "internal/strconv.uint64pow10" .u64 Lib.pow10Tab
theorem tab_named : (Tryz.prog.globalNamed "internal/strconv.uint64pow10").isSome = true := by kernel_rfl
theorem Tab.stays {W w : World} (h : Tab W) (hb : Below W.heap.size W w) : Tab w := by
  obtain ⟨g, hg⟩ := Option.isSome_iff_exists.1 tab_named
  exact Go.Joins.tab_stays hg h hb (Nat.le_refl _)
/-- A walker in block M that has written l, with what is bound. -/
structure Tx (M : Nat) (w : World) (own : Nat → Prop) (e : List (Int × Int)) (l : List UInt8) (n : Nat) : Prop where
  ex : ∃ vs mv lv bv p, Wk w M WT vs 0 (M + 1) mv lv e n ∧ vs.length = 6 ∧ vs[0]? = some (.pointer p) ∧ (p = none ∨ p = some ⟨M, 0, none⟩) ∧ vs[1]? = some bv ∧ w.ownsRow (M + 1) U8 1 bv l.length (Lib.byteCells l) ∧ own = fun b => Om M mv lv b ∨ bv.ownBlock = some b
  tab : ∃ W, Tab W ∧ W.heap.size ≤ M ∧ Below W.heap.size W w
theorem row_not_scope {w : World} {B n : Nat} {mv lv bv : Value} {e : List (Int × Int)} {m : Nat} {xs : List Value} {B' : Nat} (hS : Scp w B mv lv e n) (hb : w.ownsRow B' U8 1 bv m xs) {b : Nat} (h : bv.ownBlock = some b) : ¬ Os mv lv b := by
  rcases hb.2 with ⟨rfl, -⟩ | ⟨g, cap, cur, rfl, -, hg, -⟩
  · cases h
  · injection h with h
    subst h
    rintro (hq | hq)
    · rcases hS.map with ⟨rfl, -⟩ | ⟨C, rfl, -, D, ⟨es, cl, h1, -⟩, -⟩
      · cases hq
      · injection hq with hq
        subst hq
        rw [h1] at hg
        simp at hg
    · rcases hS.row.2 with ⟨rfl, -⟩ | ⟨g', cap', cur', rfl, -, hg', -⟩
      · cases hq
      · injection hq with hq
        subst hq
        rw [hg'] at hg
        simp only [Option.some.injEq, Obj.cells.injEq] at hg
        exact absurd hg.2.1 (by decide)
theorem Tx.own {M : Nat} {w : World} {own : Nat → Prop} {e : List (Int × Int)} {l : List UInt8} {n : Nat} (h : Tx M w own e l n) : ∀ b, own b → M ≤ b ∧ b < w.heap.size := by
  obtain ⟨vs, mv, lv, bv, p, h1, h2, h3, h4, h5, h6, rfl⟩ := h.ex
  intro b hb
  rcases hb with (rfl | hb) | hb
  · exact ⟨Nat.le_refl _, h1.arr.lt⟩
  · have := h1.scp.ge hb; omega
  · have := h6.lt b hb; omega
theorem Tx.lt {M : Nat} {w : World} {own : Nat → Prop} {e : List (Int × Int)} {l : List UInt8} {n : Nat} (h : Tx M w own e l n) : M < w.heap.size := by
  obtain ⟨vs, mv, lv, bv, p, h1, -⟩ := h.ex
  exact h1.arr.lt
theorem Tx.stays {M : Nat} {w w' : World} {own : Nat → Prop} {e : List (Int × Int)} {l : List UInt8} {n : Nat} (h : Tx M w own e l n) (hb : Below w.heap.size w w') : Tx M w' own e l n := by
  have hl := h.lt
  obtain ⟨⟨vs, mv, lv, bv, p, h1, h2, h3, h4, h5, h6, rfl⟩, W, t1, t2, t3⟩ := h
  exact ⟨⟨vs, mv, lv, bv, p, h1.stays hb, h2, h3, h4, h5, own_block h6 (fun b q => hb.block b (h6.lt b q).2), rfl⟩, W, t1, t2, t3.trans (hb.mono t3.size)⟩
theorem Wk.up' {w : World} {M : Nat} {T : TypeId} {vs : List Value} {q B : Nat} {mv lv : Value} {e : List (Int × Int)} {n m : Nat} (h : Wk w M T vs q B mv lv e n) (hn : n ≤ m) : Wk w M T vs q B mv lv e m := ⟨h.arr, h.m, h.l, h.nm, h.nl, h.scp.le hn, h.lt, h.le⟩
theorem Tx.up {M : Nat} {w : World} {own : Nat → Prop} {e : List (Int × Int)} {l : List UInt8} {n m : Nat} (h : Tx M w own e l n) (hn : n ≤ m) : Tx M w own e l m := by
  obtain ⟨⟨vs, mv, lv, bv, p, h1, h2⟩, ht⟩ := h
  exact ⟨⟨vs, mv, lv, bv, p, h1.up' hn, h2⟩, ht⟩
theorem Tx.tabOf {M : Nat} {w : World} {own : Nat → Prop} {e : List (Int × Int)} {l : List UInt8} {n : Nat} (h : Tx M w own e l n) : Tab w := by
  obtain ⟨-, W, t1, t2, t3⟩ := h
  exact t1.stays t3
theorem Tx.keeps {M : Nat} {w w' : World} {own own' : Nat → Prop} {e : List (Int × Int)} {l : List UInt8} {n : Nat} (h : Tx M w own e l n) (hev : Ev own w own' w') : Keeps (fun b => b < M) w w' := hev.lt (fun b hb => (h.own b hb).1)
theorem tab_ev {M : Nat} {w w' : World} {own own' : Nat → Prop} (ho : ∀ b, own b → M ≤ b) (hM : M ≤ w.heap.size) (h : ∃ W, Tab W ∧ W.heap.size ≤ M ∧ Below W.heap.size W w) (hev : Ev own w own' w') : ∃ W, Tab W ∧ W.heap.size ≤ M ∧ Below W.heap.size W w' := by
  obtain ⟨W, t1, t2, t3⟩ := h
  exact ⟨W, t1, t2, t3.trans (hev.below (by omega) (fun b hb => Nat.le_trans t2 (ho b hb)))⟩
/-- The walker in it. -/
theorem Tx.walk {M : Nat} {w : World} {own : Nat → Prop} {e : List (Int × Int)} {l : List UInt8} {n : Nat} (h : Tx M w own e l n) : ∃ vs mv lv, Wk w M WT vs 0 (M + 1) mv lv e n ∧ ∀ w' vs' mv' lv' e' n', vs' = (vs.set (0 + 2) mv').set (0 + 2 + 1) lv' → Wk w' M WT vs' 0 (M + 1) mv' lv' e' n' → Ev (Om M mv lv) w (Om M mv' lv') w' → ∃ own', Tx M w' own' e' l n' ∧ Ev own w own' w' := by
  have ho := h.own
  have hM := h.lt
  obtain ⟨⟨vs, mv, lv, bv, p, h1, h2, h3, h4, h5, h6, rfl⟩, ht⟩ := h
  refine ⟨vs, mv, lv, h1, fun w' vs' mv' lv' e' n' hvs h' hev => ?_⟩
  obtain ⟨-, -, g3⟩ := set_two (mv' := mv') (lv' := lv') h1.m h1.l
  have hv : ∀ j, j < 2 → vs'[j]? = vs[j]? := fun j hj => by rw [hvs]; exact g3 j (by omega) (by omega)
  have hnb : ∀ b, bv.ownBlock = some b → w'.heap[b]? = w.heap[b]? := fun b hb => hev.block b (h6.lt b hb).2 (fun hq => by
    rcases hq with rfl | hq
    · have := (h6.lt _ hb).1; omega
    · exact row_not_scope h1.scp h6 hb hq)
  have hev' : Ev (fun b => Om M mv lv b ∨ bv.ownBlock = some b) w (fun b => Om M mv' lv' b ∨ bv.ownBlock = some b) w' :=
    ⟨hev.os, hev.tape, hev.output, hev.size, fun b hb => hb.elim (fun q => (hev.mine b q).imp .inl id) (fun q => .inl (.inr q)), fun b hb hn => hev.block b hb (fun q => hn (.inl q))⟩
  exact ⟨_, ⟨⟨vs', mv', lv', bv, p, h', by rw [hvs]; simp [h2], (hv 0 (by omega)).trans h3, h4, (hv 1 (by omega)).trans h5, own_block h6 hnb, rfl⟩, tab_ev (fun b hb => (ho b hb).1) (by omega) ht hev'⟩, hev'⟩
/-- What the builder's functions see of it, and what becomes of it when its row is another one. -/
theorem Tx.build {M : Nat} {w : World} {own : Nat → Prop} {e : List (Int × Int)} {l : List UInt8} {n : Nat} (h : Tx M w own e l n) : ∃ vs bv p, Arr w M WT vs ∧ vs.length = 6 ∧ vs[0]? = some (.pointer p) ∧ (p = none ∨ p = some ⟨M, 0, none⟩) ∧ vs[1]? = some bv ∧ w.ownsRow (M + 1) U8 1 bv l.length (Lib.byteCells l) ∧ M + 1 ≤ w.heap.size ∧ (∀ b, bv.ownBlock = some b → own b ∧ b ≠ M) ∧ own M ∧ ∀ w' bv' l' p', Arr w' M WT ((vs.set 0 (.pointer p')).set 1 bv') → (p' = none ∨ p' = some ⟨M, 0, none⟩) → w'.ownsRow (M + 1) U8 1 bv' l'.length (Lib.byteCells l') → (∀ b, b < w.heap.size → b ≠ M → bv.ownBlock ≠ some b → w'.heap[b]? = w.heap[b]?) → w'.os = w.os → w'.tape = w.tape → w'.output = w.output → w.heap.size ≤ w'.heap.size → (bv'.ownBlock = bv.ownBlock ∨ ∀ k, bv'.ownBlock = some k → w.heap.size ≤ k) → ∃ own', Tx M w' own' e l' n ∧ Ev own w own' w' := by
  have ho := h.own
  have hM := h.lt
  obtain ⟨⟨vs, mv, lv, bv, p, h1, h2, h3, h4, h5, h6, rfl⟩, ht⟩ := h
  refine ⟨vs, bv, p, h1.arr, h2, h3, h4, h5, h6, h1.le, fun b hb => ⟨.inr hb, fun e => by have := (h6.lt b hb).1; omega⟩, .inl (.inl rfl), fun w' bv' l' p' ha hp hr hk k1 k2 k3 k4 k5 => ?_⟩
  have hv : ∀ j, 2 ≤ j → ((vs.set 0 (.pointer p')).set 1 bv')[j]? = vs[j]? := fun j hj => by rw [List.getElem?_set_ne (by omega), List.getElem?_set_ne (by omega)]
  have hsc : Scp w' (M + 1) mv lv e n := h1.scp.blocks (fun b hb => hk b (h1.scp.ge hb).2 (by have := (h1.scp.ge hb).1; omega) (fun q => row_not_scope h1.scp h6 q hb))
  have hev' : Ev (fun b => Om M mv lv b ∨ bv.ownBlock = some b) w (fun b => Om M mv lv b ∨ bv'.ownBlock = some b) w' :=
    ⟨k1, k2, k3, k4, fun b hb => hb.elim (fun q => .inl (.inl q)) (fun q => k5.elim (fun z => .inl (.inr (z ▸ q))) (fun z => .inr (z b q))), fun b hb hn => hk b hb (fun q => hn (.inl (.inl q))) (fun q => hn (.inr q))⟩
  exact ⟨_, ⟨⟨(vs.set 0 (.pointer p')).set 1 bv', mv, lv, bv', p', ⟨ha, (hv _ (by omega)).trans h1.m, (hv _ (by omega)).trans h1.l, (hv _ (by omega)).trans h1.nm, (hv _ (by omega)).trans h1.nl, hsc, h1.lt, Nat.le_trans h1.le k4⟩, by simp [h2], by rw [List.getElem?_set_ne (by omega), List.getElem?_set_self (by omega)], hp, by rw [List.getElem?_set_self (by simp; omega)], hr, rfl⟩, tab_ev (fun b hb => (ho b hb).1) (by omega) ht hev'⟩, hev'⟩
theorem copyCheck_arr (M : Nat) (w : World) (vs : List Value) (p : Option Addr) (ha : Arr w M WT vs) (hl : vs.length = 6) (h0 : vs[0]? = some (.pointer p)) (hp : p = none ∨ p = some ⟨M, 0, none⟩) :
    Calls Tryz.prog 104 #[.pointer (some ⟨M, 0, none⟩)] w fun e w' => e = .returned (.tuple #[]) ∧ Arr w' M WT (vs.set 0 (.pointer (some ⟨M, 0, none⟩))) ∧ w'.os = w.os ∧ w'.tape = w.tape ∧ w'.output = w.output ∧ w'.heap.size = w.heap.size ∧ ∀ b, b ≠ M → w'.heap[b]? = w.heap[b]? := by
  rcases hp with rfl | rfl
  · refine (copyCheck_fresh M w ((ha.cell 0).trans h0) (by simp [World.shape?, ha.b, hl]) (ha.frozen 0)).mono ?_
    rintro e w' ⟨rfl, rfl⟩
    exact ⟨rfl, ha.set 0 _, rfl, rfl, rfl, by simp [World.setCell], fun b hb => Below.heap_setCell _ _ _ _ hb⟩
  · refine (copyCheck_used M w ((ha.cell 0).trans h0)).mono ?_
    rintro e w' ⟨rfl, rfl⟩
    exact ⟨rfl, by rw [set_same h0]; exact ha, rfl, rfl, rfl, rfl, fun _ _ => rfl⟩

/-- What was written. -/
def Wrote (M : Nat) (own : Nat → Prop) (e : List (Int × Int)) (l : List UInt8) (n : Nat) (w : World) (v : Value) (r : Ending) (w' : World) : Prop := r = .returned v ∧ ∃ own', Tx M w' own' e l n ∧ Ev own w own' w'

set_option maxHeartbeats 2000000 in
set_option maxRecDepth 100000 in
theorem ws (M : Nat) (own : Nat → Prop) (e : List (Int × Int)) (l : List UInt8) (n : Nat) (s : ByteArray) (w : World) (h : Tx M w own e l n) (hlen : l.length + s.size ≤ 140737488355328) :
    Calls Tryz.prog 63 #[.pointer (some ⟨M, 0, none⟩), .string s] w (Wrote M own e (l ++ s.data.toList) n w (.tuple #[.int .i64 s.size, .nilIface])) := by
  obtain ⟨i0, hi, hz0, hz1, hz2⟩ := info_parts0 infoByte
  obtain ⟨vs, bv, p, ha, h2, h3, h4, h5, h6, hBw, hne, -, fin⟩ := h.build
  have CQ := hid (copyCheck_arr M w vs p ha h2 h3 h4)
  have HF := hid fin
  have H6 := hid h6
  have HL := hid (And.intro h2 h5)
  have HNE := hid hne
  have HB := hid hBw
  clear h fin h6 ha h2 h3 h4 h5 hne hBw
  go_enter Tryz.func63, Tryz.ntmps63
  go_wp2_with (go_at_call 104; refine (CQ.out).mono ?_)
  rintro r w1 ⟨rfl, ha1, k1, k2, k3, k4, k5⟩
  have c1 : w1.cell? ⟨M, 1, none⟩ = some bv := by rw [ha1.cell, List.getElem?_set_ne (by omega)]; exact HL.out.2
  have ho1 : w1.ownsRow (M + 1) U8 1 bv l.length (Lib.byteCells l) := own_block H6.out (fun b hb => k5 b (HNE.out b hb).2)
  obtain ⟨v', w2, hr, hown', hgrow, hfr⟩ := append_str2 (P := Tryz.prog) w1 (M + 1) 57 9 57 U8 i0 Tryz.underlying57 Tryz.underlying9 hi hz0 hz1 hz2 bv l.length _ ho1 s hlen (by rw [k4]; exact HB.out)
  have ha2 : Arr w2 M WT (vs.set 0 (.pointer (some ⟨M, 0, none⟩))) := ⟨by rw [hgrow.block M ha1.lt (fun e => (HNE.out M e.symm).2 rfl)]; exact ha1.b⟩
  have d1 : w2.cell? ⟨M, 1, none⟩ = some bv := by rw [ha2.cell, List.getElem?_set_ne (by omega)]; exact HL.out.2
  have f1 : w2.frozen? ⟨M, 1, none⟩ = false := ha2.frozen 1
  obtain ⟨ao, n', cap, rfl⟩ : ∃ ao n' cap, v' = .slice ao n' cap := by
    rcases hown'.2 with ⟨hv, _⟩ | ⟨g, cap, cur, hv, _⟩
    · exact ⟨_, _, _, hv⟩
    · exact ⟨_, _, _, hv⟩
  have HO := hid hown'
  have HA2 := hid ha2
  have HG := hid hgrow
  have HFR := hid hfr
  have HK := hid (And.intro k1 (And.intro k2 (And.intro k3 (And.intro k4 k5))))
  have hM2 := ha2.lt
  clear hown' ha2 hgrow hfr k1 k2 k3 k4 k5 ho1 ha1
  go_wp2_with (at_builtin; refine wpList_app2 rfl _ _ 57 9 rfl _ _ rfl rfl _ _ hr ?_)
  go_ret2
  refine ⟨rfl, ?_⟩
  have hh : (w2.setCell ⟨M, 1, none⟩ (.slice ao n' cap)).ownsRow (M + 1) U8 1 (.slice ao n' cap) (l ++ s.data.toList).length (Lib.byteCells (l ++ s.data.toList)) := by
    have h1 := own_block (w' := w2.setCell ⟨M, 1, none⟩ (.slice ao n' cap)) HO.out (fun b hb => Below.heap_setCell _ _ _ _ (fun e => by have h7 := (HO.out.lt b hb).1; have e : b = M := e; omega))
    have e1 : (l ++ s.data.toList).length = l.length + s.size := by rw [List.length_append, Array.length_toList]; rfl
    rw [e1]
    simpa [Lib.byteCells, Lib.strCells] using h1
  refine HF.out _ (.slice ao n' cap) _ (some ⟨M, 0, none⟩) (HA2.out.set 1 _) (.inr rfl) hh (fun b hb hbM hbv => ?_) ?_ ?_ ?_ ?_ ?_
  · rw [Below.heap_setCell _ _ _ _ (show b ≠ M from hbM), HG.out.block b (by rw [HK.out.2.2.2.1]; exact hb) (fun e => hbv e.symm), HK.out.2.2.2.2 b hbM]
  · exact HG.out.os.trans HK.out.1
  · exact HG.out.tape.trans HK.out.2.1
  · exact HG.out.output.trans HK.out.2.2.1
  · have h1 := HG.out.size; rw [HK.out.2.2.2.1] at h1; simpa [World.setCell] using h1
  · rcases HFR.out with h1 | h1
    · exact .inl h1
    · exact .inr fun k hk => by have := h1 k hk; rw [HK.out.2.2.2.1] at this; exact this

set_option maxHeartbeats 2000000 in
set_option maxRecDepth 100000 in
theorem wb (M : Nat) (own : Nat → Prop) (e : List (Int × Int)) (l : List UInt8) (n : Nat) (c : UInt8) (w : World) (h : Tx M w own e l n) (hlen : l.length + 1 ≤ 140737488355328) :
    Calls Tryz.prog 62 #[.pointer (some ⟨M, 0, none⟩), .int .u8 c.toNat] w (Wrote M own e (l ++ [c]) n w .nilIface) := by
  obtain ⟨i0, hi, hz0, hz1, hz2⟩ := info_parts0 infoByte
  obtain ⟨vs, bv, p, ha, h2, h3, h4, h5, h6, hBw, hne, -, fin⟩ := h.build
  have CQ := hid (copyCheck_arr M w vs p ha h2 h3 h4)
  have HF := hid fin
  have H6 := hid h6
  have HL := hid (And.intro h2 h5)
  have HNE := hid hne
  have HB := hid hBw
  clear h fin h6 ha h2 h3 h4 h5 hne hBw
  go_enter Tryz.func62, Tryz.ntmps62
  go_wp2_with (go_at_call 104; refine (CQ.out).mono ?_)
  rintro r w1 ⟨rfl, ha1, k1, k2, k3, k4, k5⟩
  have hM1 := ha1.lt
  have c1 : w1.cell? ⟨M, 1, none⟩ = some bv := by rw [ha1.cell, List.getElem?_set_ne (by omega)]; exact HL.out.2
  have ho1 : w1.ownsRow (M + 1) U8 1 bv l.length (Lib.byteCells l) := own_block H6.out (fun b hb => k5 b (HNE.out b hb).2)
  obtain ⟨v', w2, hr, hown', hgrow, hfr⟩ := append_own2 (P := Tryz.prog) (w1.alloc (.cells #[.int .u8 c.toNat] U8)) (M + 1) 57 57 U8 i0 (.int .u8 0) 1 1 Tryz.underlying57 hi hz0 hz1 hz2 rfl (by decide) bv l.length _ (ho1.alloc _) ⟨w1.heap.size, 0, none⟩ 1 1 [.int .u8 c.toNat] rfl (by
    intro j u hj
    match j, hj with
    | 0, hj => simp at hj; subst hj; simp [Addr.add]) (by intro u hu; simp at hu; subst hu; rfl) (by unfold maxLen; omega) (by omega) (by rw [size_alloc, k4]; have := HB.out; omega)
  have ha2 : Arr w2 M WT (vs.set 0 (.pointer (some ⟨M, 0, none⟩))) := ⟨by rw [hgrow.block M (by rw [size_alloc]; omega) (fun e => (HNE.out M e.symm).2 rfl), Below.heap_alloc _ _ _ hM1]; exact ha1.b⟩
  have d1 : w2.cell? ⟨M, 1, none⟩ = some bv := by rw [ha2.cell, List.getElem?_set_ne (by omega)]; exact HL.out.2
  have f1 : w2.frozen? ⟨M, 1, none⟩ = false := ha2.frozen 1
  obtain ⟨ao, n', cap, rfl⟩ : ∃ ao n' cap, v' = .slice ao n' cap := by
    rcases hown'.2 with ⟨hv, _⟩ | ⟨g, cap, cur, hv, _⟩
    · exact ⟨_, _, _, hv⟩
    · exact ⟨_, _, _, hv⟩
  have HO := hid hown'
  have HA2 := hid ha2
  have HG := hid hgrow
  have HFR := hid hfr
  have HK := hid (And.intro k1 (And.intro k2 (And.intro k3 (And.intro k4 k5))))
  have hM2 := ha2.lt
  clear hown' ha2 hgrow hfr k1 k2 k3 k4 k5 ho1 ha1
  go_wp2_with (at_builtin; refine wpList_app rfl _ _ 57 rfl _ _ rfl rfl _ _ hr ?_)
  go_ret
  refine ⟨rfl, ?_⟩
  have hh : (w2.setCell ⟨M, 1, none⟩ (.slice ao n' cap)).ownsRow (M + 1) U8 1 (.slice ao n' cap) (l ++ [c]).length (Lib.byteCells (l ++ [c])) := by
    have h1 := own_block (w' := w2.setCell ⟨M, 1, none⟩ (.slice ao n' cap)) HO.out (fun b hb => Below.heap_setCell _ _ _ _ (fun e => by have h7 := (HO.out.lt b hb).1; have e : b = M := e; omega))
    have e1 : (l ++ [c]).length = l.length + 1 := by simp
    rw [e1]
    simpa [Lib.byteCells] using h1
  refine HF.out _ (.slice ao n' cap) _ (some ⟨M, 0, none⟩) (HA2.out.set 1 _) (.inr rfl) hh (fun b hb hbM hbv => ?_) ?_ ?_ ?_ ?_ ?_
  · rw [Below.heap_setCell _ _ _ _ (show b ≠ M from hbM), HG.out.block b (by rw [size_alloc, HK.out.2.2.2.1]; omega) (fun e => hbv e.symm), Below.heap_alloc _ _ _ (by rw [HK.out.2.2.2.1]; exact hb), HK.out.2.2.2.2 b hbM]
  · exact HG.out.os.trans HK.out.1
  · exact HG.out.tape.trans HK.out.2.1
  · exact HG.out.output.trans HK.out.2.2.1
  · have h1 := HG.out.size; rw [size_alloc, HK.out.2.2.2.1] at h1; simp [World.setCell]; omega
  · rcases HFR.out with h1 | h1
    · exact .inl h1
    · exact .inr fun k hk => by have := h1 k hk; rw [size_alloc, HK.out.2.2.2.1] at this; omega

set_option maxHeartbeats 1000000 in
set_option maxRecDepth 100000 in
theorem String_any (M : Nat) (own : Nat → Prop) (e : List (Int × Int)) (l : List UInt8) (n : Nat) (w : World) (h : Tx M w own e l n) (h0 : l ≠ []) :
    Calls Tryz.prog 33 #[.pointer (some ⟨M, 0, none⟩)] w fun r w' => r = .returned (.string ⟨l.toArray⟩) ∧ Below (M + 1) w w' := by
  obtain ⟨vs, bv, p, ha, h2, h3, h4, h5, hown, hBw, hne, -, fin⟩ := h.build
  have hl0 : l.length ≠ 0 := by simpa using h0
  obtain ⟨g, cap, cur, rfl, hbg, hg, hnc, hcm, hcs, htake⟩ := hown.2.resolve_left (fun h => hl0 h.2)
  have hg1 : w.drew.heap[g]? = some (.cells cur U8 (0, 0)) := hg
  have c1 : w.drew.cell? ⟨M, 1, none⟩ = some (.slice (some ⟨g, 0, none⟩) l.length cap) := (Arr.cell (⟨ha.b⟩ : Arr w.drew M WT vs) 1).trans h5
  have q1 : (Builtin.unsafeSliceData_ #[57] 117 #[.slice (some ⟨g, 0, none⟩) l.length cap]).run Tryz.prog w.drew = .ok (.pointer (some ⟨g, 0, none⟩)) w.drew := Lib.run_unsafeSliceData_row _ _ _ _ _ _ (by omega)
  have mixed : Tryz.prog.follows .mixedOrders = true := by kernel_rfl
  have q2 : (Builtin.unsafeString_ #[117, 3] 9 #[.pointer (some ⟨g, 0, none⟩), .int .i64 l.length]).run Tryz.prog w.drew = .ok (.string ⟨l.toArray⟩) (w.drew.freeze ⟨g, 0, none⟩ l.length) := by
    refine Lib.run_unsafeString_row w.drew 117 3 9 5 Tryz.underlying117 (by kernel_rfl) g cur.size (by simp [World.shape?, hg1]) l h0 (by omega) (by unfold maxLen at hcm; omega) ?_
    intro j x hx
    exact hown.cells (g := g) rfl j (.int .u8 x.toNat) (by simp [Lib.byteCells, hx])
  clear h fin hne htake hcs hg hg1 ha hown
  go_enter Tryz.func33, Tryz.ntmps33
  go_wp2
  go_region_o
  all_goals (go_wp2; go_ret; exact ⟨rfl, Lib.below_freeze (Below.drew (Below.refl (M + 1) w)) (p := ⟨g, 0, none⟩) hbg _⟩)
theorem bl_grow (w : World) (k : Nat) (os : Array Obj) : Below w.heap.size w (Go.Sort.grow (w.drewN k) os) := by
  refine ⟨rfl, rfl, rfl, ?_, fun j hj => ?_⟩
  · show w.heap.size ≤ (w.heap ++ os).size
    simp
  · show (w.heap ++ os)[j]? = w.heap[j]?
    rw [Array.getElem?_append_left hj]
theorem size_data (s : ByteArray) : s.data.toList.length = s.size := by rw [Array.length_toList]; rfl
theorem size_bytes (l : List UInt8) : (⟨l.toArray⟩ : ByteArray).size = l.length := by
  show l.toArray.size = _
  simp
theorem itoa_any (n : Int) (hn : R64 n) (w : World) (ht : Tab w) : Calls Tryz.prog 114 #[.int .i64 n] w fun e w' => e = .returned (.string ⟨(Lib.itoa n).toArray⟩) ∧ Below w.heap.size w w' :=
  (Tryz.strconv_Itoa n hn.1 hn.2 w ht).mono fun e w' ⟨h1, k, os, h2⟩ => ⟨h1, by rw [h2]; exact bl_grow _ _ _⟩
end Go.Proofs.YtfeppchgmobfpaaGreatDoor
