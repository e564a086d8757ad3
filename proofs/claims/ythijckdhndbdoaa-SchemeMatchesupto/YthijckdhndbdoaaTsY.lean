/- matched: the walk. -/
import Derived.WalkMore
import Derived.Deep.LoopGhost
import Derived.Deep.QuietTactic
import Derived.Test.YthijckdhndbdoaaTsX
namespace Go.Proofs.Ythijckdhndbdoaa
open Go.RowKit
set_option linter.unusedVariables false
set_option linter.unusedSimpArgs false

theorem ups_mem : ∀ (l : List Int) (i : Nat), Tp.ups l i = true → ∀ x, x ∈ l ↔ (i : Int) ≤ x ∧ x < i + l.length
  | [], i, _, x => by simp
  | y :: r, i, h, x => by
    rw [Tp.ups, Bool.and_eq_true, decide_eq_true_eq] at h
    rw [List.mem_cons, ups_mem r (i + 1) h.2, h.1]
    simp only [List.length_cons]
    omega
/-- The TGen of a right scheme. -/
theorem rightS_all {g : Int} {t : Tp} (h : Tp.rightS g t = true) (x : Int) : x ∈ Tp.all 8 t ↔ 0 ≤ x ∧ x < g := by
  unfold Tp.rightS at h
  simp only [Bool.and_eq_true, decide_eq_true_eq] at h
  rw [← Tp.mem_fnd, ups_mem _ 0 h.2.1]
  omega
theorem rightS_right {g : Int} {t : Tp} (h : Tp.rightS g t = true) : t.right = true := by
  unfold Tp.rightS at h
  simp only [Bool.and_eq_true] at h
  exact h.1
def Told2 (w' : World) (F g : Nat) (a b : Tp) (e : Ending) : Prop :=
  (∃ l : List Tp, l.length = g ∧ Tp.inst (fun i => l.getD i.toNat (.mk 0 0 [])) a = b ∧ e = .returned (.tuple #[.slice (some ⟨F, 0, none⟩) g g, .bool true]) ∧ ∀ (i : Nat) x, l[i]? = some x → ∃ p, w'.cell? ⟨F, i, none⟩ = some p ∧ PAt w' p x) ∨
  (e = .returned (.tuple #[.slice (some ⟨F, 0, none⟩) g g, .bool false]) ∧ ¬ ∃ τ, Tp.inst τ a = b)
theorem PAt.below {w w' : World} {p : Value} {t : Tp} (h : PAt w p t) (hb : Below w.heap.size w w') : PAt w' p t := by
  obtain ⟨b, o, n, v, e, h1, h2, h3, h4⟩ := h
  have hk : ∀ q v, w.cell? q = some v → w'.cell? q = some v := fun q v hv => (hb.cell (World.block_lt_of_cell? w _ hv)).trans hv
  exact ⟨b, o, n, v, e, hk _ _ h1, hk _ _ h2, hk _ _ h3, h4.below hb⟩
/-- At the end: nothing waits. -/
theorem Mt.fin {W0 : World} {g M : Nat} {a b : Tp} {fd : List (Option Tp)} {fc : List Value} {wv : Value} {wr : World} (h : Mt W0 g M [] fd fc wv wr) (hra : Tp.rightS g a = true) (hS : ∀ τ, Sol τ fd [] ↔ Tp.inst τ a = b) : Told2 wr W0.heap.size g a b (.returned (.tuple #[.slice (some ⟨W0.heap.size, 0, none⟩) g g, .bool true])) := by
  have hw := Sol.whole (rightS_right hra) hS
  have hall : ∀ n : Nat, n < g → ∃ t, fd[n]? = some (some t) := fun n hn => hw n ((rightS_all hra n).2 ⟨by omega, by omega⟩) (by rw [h.fl]; exact hn)
  refine .inl ⟨fd.map (fun x => x.getD (.mk 0 0 [])), by rw [List.length_map]; exact h.fl, (hS _).1 ⟨fun i t hi => ?_, fun r hr => by cases hr⟩, rfl, fun i x hx => ?_⟩
  · simp only [Int.toNat_natCast, List.getD_eq_getElem?_getD, List.getElem?_map, hi]
    rfl
  · have hi : i < g := by have := (List.getElem?_eq_some_iff.1 hx).1; rw [List.length_map, h.fl] at this; exact this
    obtain ⟨t, ht⟩ := hall i hi
    rw [List.getElem?_map, ht] at hx
    simp at hx
    subst hx
    obtain ⟨p, hp, hP⟩ := (h.fok.2 i).2 t ht
    exact ⟨p, (h.arr.cell i).trans hp, hP.below h.bl⟩
theorem Mt.none {W0 : World} {g : Nat} {a b : Tp} {ps : List Pr} {r : Pr} {fd : List (Option Tp)} {wr : World} (hS : ∀ τ, Sol τ fd (ps ++ [r]) ↔ Tp.inst τ a = b) (hn : ∀ τ, (∀ (i : Nat) t, fd[i]? = some (some t) → τ i = t) → Tp.inst τ r.s ≠ r.t) : Told2 wr W0.heap.size g a b (.returned (.tuple #[.slice (some ⟨W0.heap.size, 0, none⟩) g g, .bool false])) := by
  refine .inr ⟨rfl, fun ⟨τ, hτ⟩ => ?_⟩
  have := (hS τ).2 hτ
  exact hn τ this.1 (this.2 r (by simp))

theorem keep8 {W1 w' w'' : World} {p0 p1 p2 p3 p4 p5 p6 p7 : Addr} {v0 v1 v2 v3 v4 v5 v6 v7 : Value} (hb : Below w'.heap.size w' w'') (h : w'.cell? p0 = some v0 ∧ w'.cell? p1 = some v1 ∧ w'.cell? p2 = some v2 ∧ w'.cell? p3 = some v3 ∧ w'.cell? p4 = some v4 ∧ w'.cell? p5 = some v5 ∧ w'.cell? p6 = some v6 ∧ w'.cell? p7 = some v7 ∧ Below W1.heap.size W1 w') : w''.cell? p0 = some v0 ∧ w''.cell? p1 = some v1 ∧ w''.cell? p2 = some v2 ∧ w''.cell? p3 = some v3 ∧ w''.cell? p4 = some v4 ∧ w''.cell? p5 = some v5 ∧ w''.cell? p6 = some v6 ∧ w''.cell? p7 = some v7 ∧ Below W1.heap.size W1 w'' :=
  have hk : ∀ p v, w'.cell? p = some v → w''.cell? p = some v := fun p v hv => (hb.cell (World.block_lt_of_cell? w' _ hv)).trans hv
  ⟨hk _ _ h.1, hk _ _ h.2.1, hk _ _ h.2.2.1, hk _ _ h.2.2.2.1, hk _ _ h.2.2.2.2.1, hk _ _ h.2.2.2.2.2.1, hk _ _ h.2.2.2.2.2.2.1, hk _ _ h.2.2.2.2.2.2.2.1, bl_tr h.2.2.2.2.2.2.2.2 hb⟩
theorem belo8 {W1 w' : World} {p0 p1 p2 p3 p4 p5 p6 p7 : Addr} {v0 v1 v2 v3 v4 v5 v6 v7 : Value} (h : w'.cell? p0 = some v0 ∧ w'.cell? p1 = some v1 ∧ w'.cell? p2 = some v2 ∧ w'.cell? p3 = some v3 ∧ w'.cell? p4 = some v4 ∧ w'.cell? p5 = some v5 ∧ w'.cell? p6 = some v6 ∧ w'.cell? p7 = some v7 ∧ Below W1.heap.size W1 w') : Below W1.heap.size W1 w' := h.2.2.2.2.2.2.2.2

set_option maxHeartbeats 8000000 in
set_option maxRecDepth 100000 in
theorem matched_any (w : World) (na nb : Nat) (g : Nat) (gb : Int) (va vb : List Value) (a b : Tp) (ha : TAt w Any na va a) (hb : TAt w Any nb vb b) (hra : Tp.rightS g a = true) (hrb : b.right = true) (hca : a.cnt ≤ 1048576) :
    Calls Try.prog 45 #[.agg (.int .i64 (g : Int) :: va).toArray, .agg (.int .i64 gb :: vb).toArray] w fun e w' => Told2 w' (w.heap.size + 2) g a b e ∧ Below w.heap.size w w' := by
  obtain ⟨a1, c1, rfl⟩ := ha.form
  obtain ⟨b1, d1, rfl⟩ := hb.form
  have hgl : g ≤ 1048576 := by have := rightS_g hra hca; omega
  obtain ⟨W0, hW0⟩ : ∃ W0, (w.alloc (.cells #[.int .i64 (g : Int), .int .i64 a.k, .int .i64 a.n, .slice a1 a.ks.length c1] 26)).alloc (.cells #[.int .i64 gb, .int .i64 b.k, .int .i64 b.n, .slice b1 b.ks.length d1] 26) = W0 := ⟨_, rfl⟩
  have hsz : W0.heap.size = w.heap.size + 2 := by rw [← hW0, size_alloc, size_alloc]
  have hbl : Below w.heap.size w W0 := by rw [← hW0]; exact bl_alloc (bl_alloc (Below.refl _ _) _) _
  have hA : Arr W0 w.heap.size 26 [.int .i64 (g : Int), .int .i64 a.k, .int .i64 a.n, .slice a1 a.ks.length c1] := by rw [← hW0]; exact Arr.stays ⟨heap_alloc_at _ _⟩ (bl_alloc (Below.refl _ _) _)
  have hB : Arr W0 (w.heap.size + 1) 26 [.int .i64 gb, .int .i64 b.k, .int .i64 b.n, .slice b1 b.ks.length d1] := by rw [← hW0]; exact ⟨by have := heap_alloc_at (w.alloc (.cells #[.int .i64 (g : Int), .int .i64 a.k, .int .i64 a.n, .slice a1 a.ks.length c1] 26)) (.cells #[.int .i64 gb, .int .i64 b.k, .int .i64 b.n, .slice b1 b.ks.length d1] 26); rw [size_alloc] at this; exact this⟩
  have hpa : PAt W0 (.pointer (some ⟨w.heap.size, 1, none⟩)) a := ⟨_, _, na, _, rfl, hA.cell 1, hA.cell 2, hA.cell 3, ha.below hbl⟩
  have hpb : PAt W0 (.pointer (some ⟨w.heap.size + 1, 1, none⟩)) b := ⟨_, _, nb, _, rfl, hB.cell 1, hB.cell 2, hB.cell 3, hb.below hbl⟩
  have HST : Hid (∀ o2, o2 = Obj.cells (List.replicate g (Value.pointer none)).toArray 62 → Mt W0 g 1048576 [⟨.pointer (some ⟨w.heap.size, 1, none⟩), .pointer (some ⟨w.heap.size + 1, 1, none⟩), a, b⟩] (List.replicate g none) (List.replicate g (.pointer none)) (.slice (some ⟨w.heap.size + 3, 0, none⟩) 1 1) ((W0.alloc o2).alloc (.cells #[.pointer (some ⟨w.heap.size, 1, none⟩), .pointer (some ⟨w.heap.size + 1, 1, none⟩)] 86))) := by
    rintro o2 rfl
    refine ⟨bl_alloc (bl_alloc (Below.refl _ _) _) _, Arr.stays ⟨heap_alloc_at _ _⟩ (bl_alloc (Below.refl _ _) _), by simp, fd_new W0 g, ⟨rfl, .inr ⟨w.heap.size + 3, 1, #[.pointer (some ⟨w.heap.size, 1, none⟩), .pointer (some ⟨w.heap.size + 1, 1, none⟩)], rfl, by omega, ?_, Nat.le_refl _, by decide, rfl, rfl⟩⟩, fun r hr => ?_, by simp only [prCnt, List.map_cons, List.map_nil, List.sum_cons, List.sum_nil]; omega⟩
    · have := heap_alloc_at (W0.alloc (.cells (List.replicate g (Value.pointer none)).toArray 62)) (.cells #[.pointer (some ⟨w.heap.size, 1, none⟩), .pointer (some ⟨w.heap.size + 1, 1, none⟩)] 86)
      rw [size_alloc, hsz] at this
      exact this
    · rw [List.mem_singleton.1 hr]
      exact ⟨hpa, hpb, rightS_right hra, hrb, fun n hn => (rightS_all hra n).1 hn⟩
  have hS0 : Hid (∀ τ, Sol τ (List.replicate g none) [⟨.pointer (some ⟨w.heap.size, 1, none⟩), .pointer (some ⟨w.heap.size + 1, 1, none⟩), a, b⟩] ↔ Tp.inst τ a = b) := by
    intro τ
    unfold Sol
    constructor
    · intro h; exact h.2 _ (List.mem_singleton.2 rfl)
    · intro h
      refine ⟨fun i t hi => ?_, fun r hr => by rw [List.mem_singleton.1 hr]; exact h⟩
      rw [List.getElem?_replicate] at hi
      split at hi
      · injection hi with hi; cases hi
      · cases hi
  have HBL := hid hbl
  have HRA := hid hra
  have HSZ := hid hsz
  have hmk := made_ptrs g
  have hmk2 : ∀ w, (Instr.makeSlice 59 (.int .i64 (g : Int)) (.int .i64 (g : Int))).run Try.prog w = .ok (.slice (some ⟨w.heap.size, 0, none⟩) g g) (w.alloc (.cells (List.replicate g (Value.pointer none)).toArray 62)) := fun w => hmk w hgl
  have HW0 := hid hW0
  obtain ⟨RP, hRP⟩ : ∃ RP, (List.replicate g (Value.pointer none)).toArray = RP := ⟨_, rfl⟩
  rw [hRP] at hmk2 HST
  clear hmk hra hrb ha hb hA hB hpa hpb hca hbl hsz hW0 hRP
  go_enter Try.func45, Try.ntmps45
  go_wp2
  go_step3
  go_wp2
  go_step3
  go_wp2
  rw [HW0.out]
  have HM0 := hid (HST.out _ rfl)
  generalize (W0.alloc (.cells RP 62)).alloc (.cells #[.pointer (some ⟨w.heap.size, 1, none⟩), .pointer (some ⟨w.heap.size + 1, 1, none⟩)] 86) = w4 at HM0 ⊢
  clear HST HW0 hmk2
  go_loopg [7] (prCnt [⟨.pointer (some ⟨w.heap.size, 1, none⟩), .pointer (some ⟨w.heap.size + 1, 1, none⟩), a, b⟩]) (fun k wv wr => ∃ (ps : List Pr) (fd : List (Option Tp)) (fc : List Value) (a2 : Option Addr) (n2 c2 : Nat), wv = .slice a2 n2 c2 ∧ Hid (n2 = ps.length) ∧ Hid (k = prCnt ps) ∧ Hid (Mt W0 g 1048576 ps fd fc (.slice a2 n2 c2) wr) ∧ Hid (∀ τ, Sol τ fd ps ↔ Tp.inst τ a = b))
  case atStart => exact ⟨[⟨.pointer (some ⟨w.heap.size, 1, none⟩), .pointer (some ⟨w.heap.size + 1, 1, none⟩), a, b⟩], _, _, _, _, _, rfl, (rfl : 1 = 1), (rfl : prCnt _ = _), HM0, hS0⟩
  case round =>
    obtain ⟨ps, fd, fc, a2, n2, c2, rfl, hn2, hk2, hM, hS⟩ := hrel
    clear HM0 hS0 w4
    have hF : W0.heap.size = w.heap.size + 1 + 1 := HSZ.out
    rcases List.eq_nil_or_concat ps with rfl | ⟨ps', r, rfl⟩
    · obtain rfl : n2 = 0 := hn2.out
      have HE := hid (hM.out.fin HRA.out hS.out)
      have HB := hid ((HBL.out).trans (hM.out.bl.mono (by have := HSZ.out; omega)))
      clear hM hS
      go_wp2
      try rw [Exit.noGoto_ret]
      go_ret2
      rw [HSZ.out] at HE
      exact ⟨HE.out, HB.out⟩
    · obtain ⟨m, hm⟩ : ∃ m, ps'.length = m := ⟨_, rfl⟩
      have hn3 : n2 = m + 1 := by rw [hn2.out, ← hm, List.concat_eq_append, List.length_append]; rfl
      subst hn3
      simp only [List.concat_eq_append] at hM hS hk2 hn2
      obtain ⟨bw, rfl, x0, x1, hcc, hcm⟩ := Mt.cells (ps := ps') (r := r) (by have := hM.out; rw [show m + 1 = (ps' ++ [r]).length by rw [List.length_append, hm]; rfl] at this; exact this)
      rw [hm] at x0 x1 hcc
      unfold maxLen at hcm
      obtain ⟨p, q, s, t⟩ := r
      have hok := hM.out.prs _ (List.mem_append_right _ (List.mem_singleton.2 rfl))
      obtain ⟨hp, hq, hrs, hrt, hgs⟩ := hok
      simp only at hp hq hrs hrt hgs x0 x1
      obtain ⟨bs, os, ns, vs, rfl, s0, s1, s2, sT⟩ := id hp
      obtain ⟨bt, ot, nt, vt, rfl, t0, t1, t2, tT⟩ := id hq
      have hkc : ∀ (b o : Nat) v, W0.cell? ⟨b, o, none⟩ = some v → wr.cell? ⟨b, o, none⟩ = some v := fun b o v hv => (hM.out.bl.cell (p := ⟨b, o, none⟩) (World.block_lt_of_cell? _ _ hv)).trans hv
      have s0' := hkc _ _ _ s0
      have s1' := hkc _ _ _ s1
      have s2' := hkc _ _ _ s2
      have t0' := hkc _ _ _ t0
      have t1' := hkc _ _ _ t1
      have t2' := hkc _ _ _ t2
      have HP := hid hp
      have HQ := hid hq
      have HRS := hid hrs
      have HRT := hid hrt
      have HGS := hid hgs
      have HTS := hid sT
      have HTT := hid tT
      have HMM := hid hm
      clear hkc hp hq hrs hrt hgs s0 s1 s2 t0 t1 t2 sT tT hm
      go_wp2
      go_quiet (fail)
      have hM2 := hid (hM.out.stays (bl_drewN wr nq))
      have s0 : (wr.drewN nq).cell? ⟨bs, os, none⟩ = some (.int .i64 s.k) := s0'
      have s1 : (wr.drewN nq).cell? ⟨bs, os + 1, none⟩ = some (.int .i64 s.n) := s1'
      have s2 : (wr.drewN nq).cell? ⟨bs, os + 2, none⟩ = some vs := s2'
      have t0 : (wr.drewN nq).cell? ⟨bt, ot, none⟩ = some (.int .i64 t.k) := t0'
      have t1 : (wr.drewN nq).cell? ⟨bt, ot + 1, none⟩ = some (.int .i64 t.n) := t1'
      have t2 : (wr.drewN nq).cell? ⟨bt, ot + 2, none⟩ = some vt := t2'
      clear s0' s1' s2' t0' t1' t2' hM
      generalize wr.drewN nq = w2 at hM2 s0 s1 s2 t0 t1 t2 ⊢
      have HB := hid ((HBL.out).trans (hM2.out.bl.mono (by have := HSZ.out; omega)))
      by_cases hk8 : s.k = 8
      · have hd8 : (s.k == (8 : Int)) = true := by simpa using hk8
        have hd8' : (s.k != (8 : Int)) = false := by simpa using hk8
        have hgn := HGS.out s.n (by rw [Tp.all_eq, if_pos hk8]; simp)
        obtain ⟨i, hi⟩ : ∃ i : Nat, s.n = i := ⟨s.n.toNat, by omega⟩
        have hig : i < g := by omega
        rw [hi] at s1
        have hinst : Hid (∀ τ : Int → Tp, Tp.inst τ s = τ i) := fun τ => by rw [Tp.inst_8 τ hk8, hi]
        have hfcl : fc.length = g := by rw [hM2.out.fok.1, hM2.out.fl]
        obtain ⟨x, hx⟩ : ∃ x, fd[i]? = some x := ⟨_, List.getElem?_eq_getElem (by rw [hM2.out.fl]; exact hig)⟩
        have hfr : ∀ j : Nat, w2.frozen? ⟨w.heap.size + 1 + 1, j, none⟩ = false := by have := hM2.out.arr.frozen; rw [hF] at this; exact this
        have hM3 : Hid (Mt W0 g 1048576 ps' fd fc (.slice (some ⟨bw, 0, none⟩) m c2) w2) := by
          have hMz := hM2.out
          rw [show m + 1 = (ps' ++ [(⟨.pointer (some ⟨bs, os, none⟩), .pointer (some ⟨bt, ot, none⟩), s, t⟩ : Pr)]).length by rw [List.length_append, HMM.out]; rfl] at hMz
          exact hMz.pop HMM.out.symm
        have hlt : prCnt ps' < gk := by
          rw [hk2.out, prCnt_app]
          have h4 : prCnt [(⟨.pointer (some ⟨bs, os, none⟩), .pointer (some ⟨bt, ot, none⟩), s, t⟩ : Pr)] = s.cnt := by simp [prCnt]
          have h5 : s.cnt = Tp.cntL s.ks + 1 := by cases s; simp only [Tp.cnt, Tp.ks]
          omega
        have HLT := hid hlt
        have hmc2 : m ≤ c2 := by omega
        clear hgn hk8 hlt
        cases x with
        | none =>
          have hc0 : w2.cell? ⟨w.heap.size + 1 + 1, i, none⟩ = some (.pointer none) := by have h1 := hM2.out.arr.cell i; rw [hF] at h1; exact h1.trans ((hM2.out.fok.2 i).1 hx)
          have HN := hid (hM3.out.find i HQ.out)
          rw [hF] at HN
          have HSN : Hid (∀ τ, Sol τ (fd.set i (some t)) ps' ↔ Tp.inst τ a = b) := fun τ => by
            rw [Sol.find hx, ← hS.out τ, Sol.snoc]
            show _ ↔ _ ∧ Tp.inst τ s = t
            rw [hinst.out τ]
          clear hM2 hM3 hS hx hfcl
          go_wp2
          go_roundg (prCnt ps')
          case measure => exact HLT.out
          case rel => exact ⟨ps', _, _, _, m, c2, rfl, HMM.out.symm, (rfl : prCnt _ = _), HN.out, HSN.out⟩
        | some u =>
          obtain ⟨pu, hpu, hPu⟩ := (hM2.out.fok.2 i).2 u hx
          obtain ⟨bu, ou, nu, vu, rfl, u0, u1, u2, uT⟩ := id hPu
          have hkc : ∀ (b o : Nat) v, W0.cell? ⟨b, o, none⟩ = some v → w2.cell? ⟨b, o, none⟩ = some v := fun b o v hv => (hM2.out.bl.cell (p := ⟨b, o, none⟩) (World.block_lt_of_cell? _ _ hv)).trans hv
          have u0' := hkc _ _ _ u0
          have u1' := hkc _ _ _ u1
          have u2' := hkc _ _ _ u2
          have hc0 : w2.cell? ⟨w.heap.size + 1 + 1, i, none⟩ = some (.pointer (some ⟨bu, ou, none⟩)) := by have h1 := hM2.out.arr.cell i; rw [hF] at h1; exact h1.trans hpu
          have HSM : Hid (∀ wz, Below w2.heap.size w2 wz → Calls Try.prog 26 #[.agg #[.int .i64 u.k, .int .i64 u.n, vu], .agg #[.int .i64 t.k, .int .i64 t.n, vt]] wz fun e w' => e = .returned (.bool (Tp.cmp u t == 0)) ∧ Below wz.heap.size wz w') := fun wz hz => Same_any wz nu nt _ _ u t (uT.below (hM2.out.bl.trans (hz.mono hM2.out.bl.size))) (HTT.out.below (hM2.out.bl.trans (hz.mono hM2.out.bl.size)))
          obtain ⟨au, cu, eu⟩ := uT.form
          simp only [List.cons.injEq, and_true, true_and] at eu
          subst eu
          obtain ⟨at1, ct1, et⟩ := HTT.out.form
          simp only [List.cons.injEq, and_true, true_and] at et
          subst et
          have hs0 : Hid (w2.drew.cell? ⟨w.heap.size + 1 + 1, i, none⟩ = some (.pointer (some ⟨bu, ou, none⟩)) ∧ w2.drew.cell? ⟨bs, os + 1, none⟩ = some (.int .i64 (i : Int)) ∧ w2.drew.cell? ⟨bu, ou, none⟩ = some (.int .i64 u.k) ∧ w2.drew.cell? ⟨bu, ou + 1, none⟩ = some (.int .i64 u.n) ∧ w2.drew.cell? ⟨bu, ou + 2, none⟩ = some (.slice au u.ks.length cu) ∧ w2.drew.cell? ⟨bt, ot, none⟩ = some (.int .i64 t.k) ∧ w2.drew.cell? ⟨bt, ot + 1, none⟩ = some (.int .i64 t.n) ∧ w2.drew.cell? ⟨bt, ot + 2, none⟩ = some (.slice at1 t.ks.length ct1) ∧ Below w2.heap.size w2 w2.drew) := ⟨hc0, s1, u0', u1', u2', t0, t1, t2, (Below.refl _ _).drew⟩
          clear u0 u1 u2 uT hPu hkc
          by_cases hut : u = t
          · have hcz : (Tp.cmp u t == 0) = true := by rw [beq_iff_eq, Tp.cmp_eq]; exact hut
            rw [hcz] at HSM
            have HSN : Hid (∀ τ, Sol τ fd ps' ↔ Tp.inst τ a = b) := fun τ => by
              rw [← hS.out τ, Sol.snoc]
              show _ ↔ _ ∧ Tp.inst τ s = t
              rw [hinst.out τ]
              exact ⟨fun h => ⟨h, by rw [← hut]; exact h.1 i u hx⟩, fun h => h.1⟩
            clear hM2 hS hx hut hcz hfcl hpu
            go_wp2
            --R12
            refine wp_region_held_drew (S := fun wz => wz.cell? ⟨w.heap.size + 1 + 1, i, none⟩ = some (.pointer (some ⟨bu, ou, none⟩)) ∧ wz.cell? ⟨bs, os + 1, none⟩ = some (.int .i64 (i : Int)) ∧ wz.cell? ⟨bu, ou, none⟩ = some (.int .i64 u.k) ∧ wz.cell? ⟨bu, ou + 1, none⟩ = some (.int .i64 u.n) ∧ wz.cell? ⟨bu, ou + 2, none⟩ = some (.slice au u.ks.length cu) ∧ wz.cell? ⟨bt, ot, none⟩ = some (.int .i64 t.k) ∧ wz.cell? ⟨bt, ot + 1, none⟩ = some (.int .i64 t.n) ∧ wz.cell? ⟨bt, ot + 2, none⟩ = some (.slice at1 t.ks.length ct1) ∧ Below w2.heap.size w2 wz) (by kernel_rfl) (hs0.out) (fun hS => ?_)
            refine wpAnyH_take (i := 0) (v := ?_) rfl (by kernel_rfl) (by kernel_rfl) (by kernel_rfl) (fun _ _ _ h => h) (Or.inl ⟨by rfl, ?_⟩) hS ?_
            rotate_left
            · intro wz hz; go_simp; try with_reducible rfl
            try simp only [Act.put, List.setIfInBounds_toArray, List.set_cons_zero, List.set_cons_succ, List.getElem_toArray, List.getElem_cons_succ, List.getElem_cons_zero]
            refine wpAnyH_take (i := 1) (v := ?_) rfl (by kernel_rfl) (by kernel_rfl) (by kernel_rfl) (fun _ _ _ h => h) (Or.inl ⟨by rfl, ?_⟩) hS ?_
            rotate_left
            · intro wz hz; go_simp; try with_reducible rfl
            try simp only [Act.put, List.setIfInBounds_toArray, List.set_cons_zero, List.set_cons_succ, List.getElem_toArray, List.getElem_cons_succ, List.getElem_cons_zero]
            refine wpAnyH_take (i := 2) (v := ?_) rfl (by kernel_rfl) (by kernel_rfl) (by kernel_rfl) (fun _ _ _ h => h) (Or.inl ⟨by rfl, ?_⟩) hS ?_
            rotate_left
            · intro wz hz; go_simp; try with_reducible rfl
            try simp only [Act.put, List.setIfInBounds_toArray, List.set_cons_zero, List.set_cons_succ, List.getElem_toArray, List.getElem_cons_succ, List.getElem_cons_zero]
            refine wpAnyH_take (i := 3) (v := ?_) rfl (by kernel_rfl) (by kernel_rfl) (by kernel_rfl) (fun _ _ _ h => h) (Or.inl ⟨by rfl, ?_⟩) hS ?_
            rotate_left
            · intro wz hz; go_simp; try with_reducible rfl
            try simp only [Act.put, List.setIfInBounds_toArray, List.set_cons_zero, List.set_cons_succ, List.getElem_toArray, List.getElem_cons_succ, List.getElem_cons_zero]
            refine wpAnyH_take (i := 4) (v := ?_) rfl (by kernel_rfl) (by kernel_rfl) (by kernel_rfl) (fun _ _ _ h => h) (Or.inl ⟨by rfl, ?_⟩) hS ?_
            rotate_left
            · intro wz hz; obtain ⟨z0, z1, z2, z3, z4, z5, z6, z7, z8⟩ := hz; go_simp; try with_reducible rfl
            try simp only [Act.put, List.setIfInBounds_toArray, List.set_cons_zero, List.set_cons_succ, List.getElem_toArray, List.getElem_cons_succ, List.getElem_cons_zero]
            refine wpAnyH_take (i := 5) (v := ?_) rfl (by kernel_rfl) (by kernel_rfl) (by kernel_rfl) (fun _ _ _ h => h) (Or.inl ⟨by rfl, ?_⟩) hS ?_
            rotate_left
            · intro wz hz; go_simp; try with_reducible rfl
            try simp only [Act.put, List.setIfInBounds_toArray, List.set_cons_zero, List.set_cons_succ, List.getElem_toArray, List.getElem_cons_succ, List.getElem_cons_zero]
            refine wpAnyH_take (i := 6) (v := ?_) rfl (by kernel_rfl) (by kernel_rfl) (by kernel_rfl) (fun _ _ _ h => h) (Or.inl ⟨by rfl, ?_⟩) hS ?_
            rotate_left
            · intro wz hz; obtain ⟨z0, z1, z2, z3, z4, z5, z6, z7, z8⟩ := hz; go_simp; try with_reducible rfl
            try simp only [Act.put, List.setIfInBounds_toArray, List.set_cons_zero, List.set_cons_succ, List.getElem_toArray, List.getElem_cons_succ, List.getElem_cons_zero]
            refine wpAnyH_take (i := 7) (v := ?_) rfl (by kernel_rfl) (by kernel_rfl) (by kernel_rfl) (fun _ _ _ h => h) (Or.inl ⟨by rfl, ?_⟩) hS ?_
            rotate_left
            · intro wz hz; go_simp; try with_reducible rfl
            try simp only [Act.put, List.setIfInBounds_toArray, List.set_cons_zero, List.set_cons_succ, List.getElem_toArray, List.getElem_cons_succ, List.getElem_cons_zero]
            refine wpAnyH_take (i := 8) (v := ?_) rfl (by kernel_rfl) (by kernel_rfl) (by kernel_rfl) (fun _ _ _ h => h) (Or.inl ⟨by rfl, ?_⟩) hS ?_
            rotate_left
            · intro wz hz; obtain ⟨z0, z1, z2, z3, z4, z5, z6, z7, z8⟩ := hz; go_simp; try with_reducible rfl
            try simp only [Act.put, List.setIfInBounds_toArray, List.set_cons_zero, List.set_cons_succ, List.getElem_toArray, List.getElem_cons_succ, List.getElem_cons_zero]
            refine wpAnyH_take (i := 9) (v := ?_) rfl (by kernel_rfl) (by kernel_rfl) (by kernel_rfl) (fun _ _ _ h => h) (Or.inl ⟨by rfl, ?_⟩) hS ?_
            rotate_left
            · intro wz hz; go_simp; try with_reducible rfl
            try simp only [Act.put, List.setIfInBounds_toArray, List.set_cons_zero, List.set_cons_succ, List.getElem_toArray, List.getElem_cons_succ, List.getElem_cons_zero]
            refine wpAnyH_take (i := 10) (v := ?_) rfl (by kernel_rfl) (by kernel_rfl) (by kernel_rfl) (fun _ _ _ h => h) (Or.inl ⟨by rfl, ?_⟩) hS ?_
            rotate_left
            · intro wz hz; go_simp; try with_reducible rfl
            try simp only [Act.put, List.setIfInBounds_toArray, List.set_cons_zero, List.set_cons_succ, List.getElem_toArray, List.getElem_cons_succ, List.getElem_cons_zero]
            refine wpAnyH_take (i := 11) (v := ?_) rfl (by kernel_rfl) (by kernel_rfl) (by kernel_rfl) (fun _ _ _ h => h) (Or.inl ⟨by rfl, ?_⟩) hS ?_
            rotate_left
            · intro wz hz; obtain ⟨z0, z1, z2, z3, z4, z5, z6, z7, z8⟩ := hz; go_simp; try with_reducible rfl
            try simp only [Act.put, List.setIfInBounds_toArray, List.set_cons_zero, List.set_cons_succ, List.getElem_toArray, List.getElem_cons_succ, List.getElem_cons_zero]
            refine wpAnyH_ready (rs := [12]) (by kernel_rfl) (by simp) (AllReadyH.cons rfl (fun K hK => ?_) AllReadyH.nil)
            go_simp
            refine (HSM.out _ (belo8 hS)).mono ?_
            rintro e w5 ⟨rfl, hb5⟩
            have hS5 := keep8 hb5 hS
            refine hK.out _ _ (hS5) (fun hSn => ?_)
            clear hK K hS
            have hS := hSn
            clear hSn
            try simp only [Act.put, List.setIfInBounds_toArray, List.set_cons_zero, List.set_cons_succ, List.getElem_toArray, List.getElem_cons_succ, List.getElem_cons_zero]
            refine wpAnyH_take (i := 13) (v := ?_) rfl (by kernel_rfl) (by kernel_rfl) (by kernel_rfl) (fun _ _ _ h => h) (Or.inl ⟨by rfl, ?_⟩) hS ?_
            rotate_left
            · intro wz hz; go_simp; try with_reducible rfl
            try simp only [Act.put, List.setIfInBounds_toArray, List.set_cons_zero, List.set_cons_succ, List.getElem_toArray, List.getElem_cons_succ, List.getElem_cons_zero]
            refine wpAnyH_done (by kernel_rfl) ?_ _
            --E12
            have HB5 := hid (belo8 hS)
            all_goals go_wp2
            all_goals go_roundg (prCnt ps')
            all_goals (try case measure => exact HLT.out)
            all_goals exact ⟨ps', fd, fc, _, m, c2, rfl, HMM.out.symm, (rfl : prCnt _ = _), hM3.out.stays HB5.out, HSN.out⟩
          · have hcz : (Tp.cmp u t == 0) = false := by rw [beq_eq_false_iff_ne, Ne, Tp.cmp_eq]; exact hut
            rw [hcz] at HSM
            have HE := hid (fun w3 : World => Mt.none (wr := w3) (W0 := W0) (g := g) hS.out (fun τ hτ e => hut (by have e' : Tp.inst τ s = t := e; rw [hinst.out τ] at e'; rw [← e']; exact (hτ i u hx).symm)))
            clear hM2 hM3 hS hx hut hcz hfcl hpu
            go_wp2
            --R12
            refine wp_region_held_drew (S := fun wz => wz.cell? ⟨w.heap.size + 1 + 1, i, none⟩ = some (.pointer (some ⟨bu, ou, none⟩)) ∧ wz.cell? ⟨bs, os + 1, none⟩ = some (.int .i64 (i : Int)) ∧ wz.cell? ⟨bu, ou, none⟩ = some (.int .i64 u.k) ∧ wz.cell? ⟨bu, ou + 1, none⟩ = some (.int .i64 u.n) ∧ wz.cell? ⟨bu, ou + 2, none⟩ = some (.slice au u.ks.length cu) ∧ wz.cell? ⟨bt, ot, none⟩ = some (.int .i64 t.k) ∧ wz.cell? ⟨bt, ot + 1, none⟩ = some (.int .i64 t.n) ∧ wz.cell? ⟨bt, ot + 2, none⟩ = some (.slice at1 t.ks.length ct1) ∧ Below w2.heap.size w2 wz) (by kernel_rfl) (hs0.out) (fun hS => ?_)
            refine wpAnyH_take (i := 0) (v := ?_) rfl (by kernel_rfl) (by kernel_rfl) (by kernel_rfl) (fun _ _ _ h => h) (Or.inl ⟨by rfl, ?_⟩) hS ?_
            rotate_left
            · intro wz hz; go_simp; try with_reducible rfl
            try simp only [Act.put, List.setIfInBounds_toArray, List.set_cons_zero, List.set_cons_succ, List.getElem_toArray, List.getElem_cons_succ, List.getElem_cons_zero]
            refine wpAnyH_take (i := 1) (v := ?_) rfl (by kernel_rfl) (by kernel_rfl) (by kernel_rfl) (fun _ _ _ h => h) (Or.inl ⟨by rfl, ?_⟩) hS ?_
            rotate_left
            · intro wz hz; go_simp; try with_reducible rfl
            try simp only [Act.put, List.setIfInBounds_toArray, List.set_cons_zero, List.set_cons_succ, List.getElem_toArray, List.getElem_cons_succ, List.getElem_cons_zero]
            refine wpAnyH_take (i := 2) (v := ?_) rfl (by kernel_rfl) (by kernel_rfl) (by kernel_rfl) (fun _ _ _ h => h) (Or.inl ⟨by rfl, ?_⟩) hS ?_
            rotate_left
            · intro wz hz; go_simp; try with_reducible rfl
            try simp only [Act.put, List.setIfInBounds_toArray, List.set_cons_zero, List.set_cons_succ, List.getElem_toArray, List.getElem_cons_succ, List.getElem_cons_zero]
            refine wpAnyH_take (i := 3) (v := ?_) rfl (by kernel_rfl) (by kernel_rfl) (by kernel_rfl) (fun _ _ _ h => h) (Or.inl ⟨by rfl, ?_⟩) hS ?_
            rotate_left
            · intro wz hz; go_simp; try with_reducible rfl
            try simp only [Act.put, List.setIfInBounds_toArray, List.set_cons_zero, List.set_cons_succ, List.getElem_toArray, List.getElem_cons_succ, List.getElem_cons_zero]
            refine wpAnyH_take (i := 4) (v := ?_) rfl (by kernel_rfl) (by kernel_rfl) (by kernel_rfl) (fun _ _ _ h => h) (Or.inl ⟨by rfl, ?_⟩) hS ?_
            rotate_left
            · intro wz hz; obtain ⟨z0, z1, z2, z3, z4, z5, z6, z7, z8⟩ := hz; go_simp; try with_reducible rfl
            try simp only [Act.put, List.setIfInBounds_toArray, List.set_cons_zero, List.set_cons_succ, List.getElem_toArray, List.getElem_cons_succ, List.getElem_cons_zero]
            refine wpAnyH_take (i := 5) (v := ?_) rfl (by kernel_rfl) (by kernel_rfl) (by kernel_rfl) (fun _ _ _ h => h) (Or.inl ⟨by rfl, ?_⟩) hS ?_
            rotate_left
            · intro wz hz; go_simp; try with_reducible rfl
            try simp only [Act.put, List.setIfInBounds_toArray, List.set_cons_zero, List.set_cons_succ, List.getElem_toArray, List.getElem_cons_succ, List.getElem_cons_zero]
            refine wpAnyH_take (i := 6) (v := ?_) rfl (by kernel_rfl) (by kernel_rfl) (by kernel_rfl) (fun _ _ _ h => h) (Or.inl ⟨by rfl, ?_⟩) hS ?_
            rotate_left
            · intro wz hz; obtain ⟨z0, z1, z2, z3, z4, z5, z6, z7, z8⟩ := hz; go_simp; try with_reducible rfl
            try simp only [Act.put, List.setIfInBounds_toArray, List.set_cons_zero, List.set_cons_succ, List.getElem_toArray, List.getElem_cons_succ, List.getElem_cons_zero]
            refine wpAnyH_take (i := 7) (v := ?_) rfl (by kernel_rfl) (by kernel_rfl) (by kernel_rfl) (fun _ _ _ h => h) (Or.inl ⟨by rfl, ?_⟩) hS ?_
            rotate_left
            · intro wz hz; go_simp; try with_reducible rfl
            try simp only [Act.put, List.setIfInBounds_toArray, List.set_cons_zero, List.set_cons_succ, List.getElem_toArray, List.getElem_cons_succ, List.getElem_cons_zero]
            refine wpAnyH_take (i := 8) (v := ?_) rfl (by kernel_rfl) (by kernel_rfl) (by kernel_rfl) (fun _ _ _ h => h) (Or.inl ⟨by rfl, ?_⟩) hS ?_
            rotate_left
            · intro wz hz; obtain ⟨z0, z1, z2, z3, z4, z5, z6, z7, z8⟩ := hz; go_simp; try with_reducible rfl
            try simp only [Act.put, List.setIfInBounds_toArray, List.set_cons_zero, List.set_cons_succ, List.getElem_toArray, List.getElem_cons_succ, List.getElem_cons_zero]
            refine wpAnyH_take (i := 9) (v := ?_) rfl (by kernel_rfl) (by kernel_rfl) (by kernel_rfl) (fun _ _ _ h => h) (Or.inl ⟨by rfl, ?_⟩) hS ?_
            rotate_left
            · intro wz hz; go_simp; try with_reducible rfl
            try simp only [Act.put, List.setIfInBounds_toArray, List.set_cons_zero, List.set_cons_succ, List.getElem_toArray, List.getElem_cons_succ, List.getElem_cons_zero]
            refine wpAnyH_take (i := 10) (v := ?_) rfl (by kernel_rfl) (by kernel_rfl) (by kernel_rfl) (fun _ _ _ h => h) (Or.inl ⟨by rfl, ?_⟩) hS ?_
            rotate_left
            · intro wz hz; go_simp; try with_reducible rfl
            try simp only [Act.put, List.setIfInBounds_toArray, List.set_cons_zero, List.set_cons_succ, List.getElem_toArray, List.getElem_cons_succ, List.getElem_cons_zero]
            refine wpAnyH_take (i := 11) (v := ?_) rfl (by kernel_rfl) (by kernel_rfl) (by kernel_rfl) (fun _ _ _ h => h) (Or.inl ⟨by rfl, ?_⟩) hS ?_
            rotate_left
            · intro wz hz; obtain ⟨z0, z1, z2, z3, z4, z5, z6, z7, z8⟩ := hz; go_simp; try with_reducible rfl
            try simp only [Act.put, List.setIfInBounds_toArray, List.set_cons_zero, List.set_cons_succ, List.getElem_toArray, List.getElem_cons_succ, List.getElem_cons_zero]
            refine wpAnyH_ready (rs := [12]) (by kernel_rfl) (by simp) (AllReadyH.cons rfl (fun K hK => ?_) AllReadyH.nil)
            go_simp
            refine (HSM.out _ (belo8 hS)).mono ?_
            rintro e w5 ⟨rfl, hb5⟩
            have hS5 := keep8 hb5 hS
            refine hK.out _ _ (hS5) (fun hSn => ?_)
            clear hK K hS
            have hS := hSn
            clear hSn
            try simp only [Act.put, List.setIfInBounds_toArray, List.set_cons_zero, List.set_cons_succ, List.getElem_toArray, List.getElem_cons_succ, List.getElem_cons_zero]
            refine wpAnyH_take (i := 13) (v := ?_) rfl (by kernel_rfl) (by kernel_rfl) (by kernel_rfl) (fun _ _ _ h => h) (Or.inl ⟨by rfl, ?_⟩) hS ?_
            rotate_left
            · intro wz hz; go_simp; try with_reducible rfl
            try simp only [Act.put, List.setIfInBounds_toArray, List.set_cons_zero, List.set_cons_succ, List.getElem_toArray, List.getElem_cons_succ, List.getElem_cons_zero]
            refine wpAnyH_done (by kernel_rfl) ?_ _
            --E12
            have HB5 := hid (belo8 hS)
            all_goals go_wp2
            all_goals (try rw [Exit.noGoto_ret])
            all_goals go_ret2
            all_goals refine ⟨?_, bl_tr HB.out HB5.out⟩
            all_goals have hh := HE.out
            all_goals rw [HSZ.out] at hh
            all_goals exact hh _
      · have hd8 : (s.k == (8 : Int)) = false := by simpa using hk8
        have HK8 := hid hk8
        clear hk8
        by_cases hkk : s.k = t.k
        · by_cases hnn : s.n = t.n
          · have hdk : (s.k != t.k) = false := by simpa using hkk
            have hdn : (s.n != t.n) = false := by simpa using hnn
            have hlk := Tp.right_len HRS.out HRT.out hkk
            have HKQ : Hid (∀ wz, Below w2.heap.size w2 wz → Calls Try.prog 64 #[.slice (some ⟨bw, 0, none⟩) m c2, .pointer (some ⟨bs, os, none⟩), .pointer (some ⟨bt, ot, none⟩)] wz fun e w' => ∃ a3 n3 c3 ps3, e = .returned (.slice a3 n3 c3) ∧ n3 = List.length ps3 ∧ Mt W0 g 1048576 ps3 fd fc (.slice a3 n3 c3) w' ∧ (∀ τ, Sol τ fd ps3 ↔ Tp.inst τ a = b) ∧ prCnt ps3 < gk) := by
              intro wz hz
              have hMz := hM2.out.stays hz
              rw [show m + 1 = (ps' ++ [(⟨.pointer (some ⟨bs, os, none⟩), .pointer (some ⟨bt, ot, none⟩), s, t⟩ : Pr)]).length by rw [List.length_append, HMM.out]; rfl] at hMz
              have hMp := hMz.pop HMM.out.symm
              have hle : ps'.length + s.ks.length ≤ 2097152 := by
                have h1 := hMz.cnt
                rw [prCnt_app] at h1
                have h2 := prLen_le ps'
                have h3 := Tp.cntL_len s.ks
                have h4 : prCnt [(⟨.pointer (some ⟨bs, os, none⟩), .pointer (some ⟨bt, ot, none⟩), s, t⟩ : Pr)] = s.cnt := by simp [prCnt]
                have h5 : s.cnt = Tp.cntL s.ks + 1 := by cases s; simp only [Tp.cnt, Tp.ks]
                omega
              refine (withKids_any W0 wz _ _ _ s t ps' hMp.bl HP.out HQ.out hlk (by have := hMp.own; exact this) hMp.sz hle).mono ?_
              rintro e w' ⟨wv', rfl, ho, hE⟩
              obtain ⟨a3, c3, rfl⟩ := own_form ho
              obtain ⟨k1, k2⟩ := hMz.kids HK8.out hlk ho (by rw [HMM.out]; exact hE)
              exact ⟨a3, _, c3, _, rfl, rfl, k1, fun τ => (Sol.kids HK8.out hkk hnn hlk).trans (Sol.snoc.symm.trans (hS.out τ)), by rw [hk2.out]; exact k2⟩
            clear hkk hnn hlk
            go_wp2
            go_quiet (fail)
            go_wp2_with (go_at_call 64; refine (HKQ.out _ (bl_drewN _ _)).mono ?_; rintro e w3 ⟨a3, n3, c3, ps3, rfl, h31, h32, h33, h34⟩; have H31 := hid h31; have H32 := hid h32; have H33 := hid h33; have H34 := hid h34; clear h31 h32 h33 h34)
            go_roundg (prCnt ps3)
            case measure => exact H34.out
            case rel => exact ⟨ps3, fd, fc, a3, n3, c3, rfl, H31, (rfl : prCnt _ = _), H32, H33⟩
          · have hdk : (s.k != t.k) = false := by simpa using hkk
            have hdn : (s.n != t.n) = true := by simpa using hnn
            have HE := hid (fun w3 : World => Mt.none (wr := w3) (W0 := W0) (g := g) hS.out (fun τ _ e => hnn (by have e' := congrArg Tp.n e; rw [Tp.inst_no τ HK8.out] at e'; exact e')))
            clear hkk hnn hM2 hS
            go_wp2
            go_quiet (fail)
            go_wp2
            try rw [Exit.noGoto_ret]
            go_ret2
            refine ⟨?_, bl_dN HB.out _⟩
            have hh := HE.out
            rw [HSZ.out] at hh
            exact hh _
        · have hdk : (s.k != t.k) = true := by simpa using hkk
          have HE := hid (fun w3 : World => Mt.none (wr := w3) (W0 := W0) (g := g) hS.out (fun τ _ e => hkk (by have e' := congrArg Tp.k e; rw [Tp.inst_no τ HK8.out] at e'; exact e')))
          clear hkk hM2 hS
          go_wp2
          go_quiet (fail)
          go_wp2
          try rw [Exit.noGoto_ret]
          go_ret2
          refine ⟨?_, bl_dN HB.out _⟩
          have hh := HE.out
          rw [HSZ.out] at hh
          exact hh _
end Go.Proofs.Ythijckdhndbdoaa
