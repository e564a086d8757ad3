/- matched: what is kept while pairs wait. -/
import Derived.Laws.OwnMore
import Derived.Test.YthijckdhndbdoaaTsK
import Derived.Test.YthijckdhndbdoaaTsI
import Derived.Test.YthijckdhndbdoaaTpO
namespace Go.Proofs.Ythijckdhndbdoaa
open Go.RowKit
set_option linter.unusedVariables false
set_option linter.unusedSimpArgs false

theorem info_ptr : (Try.prog.info? 62).map (fun i => (i.zero, i.size, i.bytes)) = some (some (.pointer none), 1, 8) := by kernel_rfl
theorem made_ptrs (n : Nat) (w : World) (hn : n ≤ 1048576) : (Instr.makeSlice 59 (.int .i64 (n : Int)) (.int .i64 (n : Int))).run Try.prog w = .ok (.slice (some ⟨w.heap.size, 0, none⟩) n n) (w.alloc (.cells (List.replicate n (Value.pointer none)).toArray 62)) := by
  obtain ⟨i, hi, hz, hs, hb⟩ := info_parts0 info_ptr
  have h := run_make (P := Try.prog) w 59 62 i _ Try.underlying59 hi hz .i64 .i64 n n (by omega) (Int.le_refl _) (by rw [hb]; omega) (by omega)
  simp only [Int.toNat_natCast, hs, Nat.mul_one] at h
  have he : madeCells (Value.pointer none).cells n = (List.replicate n (Value.pointer none)).toArray := by
    apply Array.ext'
    exact toList_madeCells_one _ n
  rw [h, he]
theorem own_cut {w : World} {base : Nat} {e : TypeId} {size : Nat} {p : Option Addr} {n c : Nat} {xs : List Value} (h : w.ownsRow base e size (.slice p n c) n xs) {m : Nat} (hm : m < n) : w.ownsRow base e size (.slice p m c) m (xs.take (m * size)) := by
  rcases h.2 with ⟨-, hz⟩ | ⟨g, cap, cur, hv, h1, h2, h3, h4, h5, h6⟩
  · omega
  · injection hv with e1 e2 e3
    subst e1
    subst e3
    have hle : m * size ≤ n * size := Nat.mul_le_mul_right _ (by omega)
    refine ⟨by rw [List.length_take, h.1]; omega, .inr ⟨g, c, cur, rfl, h1, h2, by omega, h4, h5, ?_⟩⟩
    rw [← h6, List.take_take]
    congr 1
    omega
/-- What was found, in memory. -/
def FdOk (W0 : World) (fd : List (Option Tp)) (fc : List Value) : Prop := fc.length = fd.length ∧ ∀ i : Nat, (fd[i]? = some none → fc[i]? = some (.pointer none)) ∧ ∀ t, fd[i]? = some (some t) → ∃ p, fc[i]? = some p ∧ PAt W0 p t
theorem FdOk.set {W0 : World} {fd : List (Option Tp)} {fc : List Value} (h : FdOk W0 fd fc) (i : Nat) {p : Value} {t : Tp} (hp : PAt W0 p t) : FdOk W0 (fd.set i (some t)) (fc.set i p) := by
  refine ⟨by rw [List.length_set, List.length_set]; exact h.1, fun j => ?_⟩
  by_cases he : i = j
  · subst he
    by_cases hl : i < fd.length
    · rw [List.getElem?_set_self hl, List.getElem?_set_self (by rw [h.1]; exact hl)]
      refine ⟨fun e => by simp at e, fun u e => ?_⟩
      injection e with e
      injection e with e
      subst e
      exact ⟨p, rfl, hp⟩
    · rw [List.getElem?_eq_none (by rw [List.length_set]; omega)]
      refine ⟨fun e => ?_, fun u e => ?_⟩ <;> cases e
  · rw [List.getElem?_set_ne he, List.getElem?_set_ne he]
    exact h.2 j
theorem fd_new (W0 : World) (n : Nat) : FdOk W0 (List.replicate n none) (List.replicate n (.pointer none)) := by
  refine ⟨by simp, fun i => ?_⟩
  simp only [List.getElem?_replicate]
  by_cases h : i < n
  · simp [h]
  · simp [h]
def Pr.ok (W0 : World) (g : Nat) (r : Pr) : Prop := PAt W0 r.p r.s ∧ PAt W0 r.q r.t ∧ r.s.right = true ∧ r.t.right = true ∧ ∀ n ∈ Tp.all 8 r.s, 0 ≤ n ∧ n < g
def prCnt (ps : List Pr) : Nat := (ps.map fun r => r.s.cnt).sum
/-- While pairs wait. -/
structure Mt (W0 : World) (g M : Nat) (ps : List Pr) (fd : List (Option Tp)) (fc : List Value) (wv : Value) (wr : World) : Prop where
  bl : Below W0.heap.size W0 wr
  arr : Arr wr W0.heap.size 62 fc
  fl : fd.length = g
  fok : FdOk W0 fd fc
  own : wr.ownsRow (W0.heap.size + 1) 86 2 wv ps.length (prCells ps)
  prs : ∀ r ∈ ps, r.ok W0 g
  cnt : prCnt ps ≤ M
theorem Mt.sz {W0 : World} {g M : Nat} {ps : List Pr} {fd : List (Option Tp)} {fc : List Value} {wv : Value} {wr : World} (h : Mt W0 g M ps fd fc wv wr) : W0.heap.size + 1 ≤ wr.heap.size := h.arr.lt
theorem prCells_app (a b : List Pr) : prCells (a ++ b) = prCells a ++ prCells b := by unfold prCells; rw [List.flatMap_append]
theorem prCnt_app (a b : List Pr) : prCnt (a ++ b) = prCnt a + prCnt b := by unfold prCnt; rw [List.map_append, List.sum_append]
theorem prLen_le (ps : List Pr) : ps.length ≤ prCnt ps := by
  induction ps with
  | nil => exact Nat.le_refl _
  | cons r l ih =>
    have : 1 ≤ r.s.cnt := by obtain ⟨_, _, s, _⟩ := r; cases s; simp only [Tp.cnt]; omega
    unfold prCnt at ih ⊢
    simp only [List.map_cons, List.sum_cons, List.length_cons]
    omega
/-- A draw, new blocks. -/
theorem Mt.stays {W0 : World} {g M : Nat} {ps : List Pr} {fd : List (Option Tp)} {fc : List Value} {wv : Value} {wr wz : World} (h : Mt W0 g M ps fd fc wv wr) (hb : Below wr.heap.size wr wz) : Mt W0 g M ps fd fc wv wz :=
  ⟨h.bl.trans (hb.mono h.bl.size), h.arr.stays hb, h.fl, h.fok, own_stays h.own hb, h.prs, h.cnt⟩
/-- The last pair is met. -/
theorem Mt.pop {W0 : World} {g M : Nat} {ps : List Pr} {r : Pr} {fd : List (Option Tp)} {fc : List Value} {p : Option Addr} {n c : Nat} {wr : World} (h : Mt W0 g M (ps ++ [r]) fd fc (.slice p (ps ++ [r]).length c) wr) (hn : n = ps.length) : Mt W0 g M ps fd fc (.slice p n c) wr := by
  subst hn
  refine ⟨h.bl, h.arr, h.fl, h.fok, ?_, fun x hx => h.prs x (List.mem_append_left _ hx), by have := h.cnt; rw [prCnt_app] at this; omega⟩
  have := own_cut h.own (m := ps.length) (by rw [List.length_append]; simp)
  rw [prCells_app, List.take_left' (prCells_len ps)] at this
  exact this
/-- A TGen is found. -/
theorem Mt.find {W0 : World} {g M : Nat} {ps : List Pr} {fd : List (Option Tp)} {fc : List Value} {wv : Value} {wr : World} (h : Mt W0 g M ps fd fc wv wr) (i : Nat) {p : Value} {t : Tp} (hp : PAt W0 p t) : Mt W0 g M ps (fd.set i (some t)) (fc.set i p) wv (wr.setCell ⟨W0.heap.size, i, none⟩ p) := by
  refine ⟨h.bl.setCell (p := ⟨W0.heap.size, i, none⟩) (Nat.le_refl _) _, h.arr.set i p, by rw [List.length_set]; exact h.fl, h.fok.set i hp, ?_, h.prs, h.cnt⟩
  exact h.own.kept (row := some W0.heap.size) ⟨rfl, rfl, rfl, by simp [World.setCell], fun b _ hb => Below.heap_setCell _ _ _ _ (fun e => hb (by simp [e]))⟩ (Or.inr (fun e => by have := (h.own.lt _ e).1; omega))
theorem Tp.right_eq (t : Tp) : t.right = (Tp.own t.k t.n t.ks.length && Tp.rightL t.ks) := by cases t; rw [Tp.right]; rfl
theorem Tp.rightL_mem : ∀ {l : List Tp}, Tp.rightL l = true → ∀ x ∈ l, x.right = true
  | [], _, x, hx => by cases hx
  | y :: r, h, x, hx => by
    rw [Tp.rightL, Bool.and_eq_true] at h
    rcases List.mem_cons.1 hx with rfl | hx
    · exact h.1
    · exact Tp.rightL_mem h.2 x hx
theorem Tp.right_len {s t : Tp} (hs : s.right = true) (ht : t.right = true) (hk : s.k = t.k) : s.ks.length = t.ks.length := by
  rw [Tp.right_eq, Bool.and_eq_true] at hs ht
  have h1 := hs.1
  have h2 := ht.1
  rw [← hk] at h2
  unfold Tp.own at h1 h2
  split at h1
  · rw [if_pos ‹_›] at h2; simp at h1 h2; rw [h1.2, h2.2]
  · rw [if_neg ‹_›] at h2
    split at h1
    · rw [if_pos ‹_›] at h2; simp at h1 h2; omega
    · rw [if_neg ‹_›] at h2
      split at h1
      · rw [if_pos ‹_›] at h2; simp at h1 h2; rw [h1.2, h2.2]
      · cases h1
theorem Tp.right_gen {t : Tp} (h : t.right = true) (hk : t.k = 8) : 0 ≤ t.n ∧ t.ks = [] := by
  rw [Tp.right_eq, Bool.and_eq_true] at h
  have h1 := h.1
  rw [hk] at h1
  unfold Tp.own at h1
  simp at h1
  exact h1
/-- The parts of the last pair wait. -/
theorem Mt.kids {W0 : World} {g M : Nat} {ps : List Pr} {r : Pr} {fd : List (Option Tp)} {fc : List Value} {p : Option Addr} {c : Nat} {wr w' : World} {wv' : Value} (h : Mt W0 g M (ps ++ [r]) fd fc (.slice p (ps ++ [r]).length c) wr) (hk : r.s.k ≠ 8) (hl : r.s.ks.length = r.t.ks.length)
    (hown : w'.ownsRow (W0.heap.size + 1) 86 2 wv' (ps ++ kidsOf (kidAt W0 r.p) (kidAt W0 r.q) r.s.ks r.t.ks r.s.ks.length).length (prCells (ps ++ kidsOf (kidAt W0 r.p) (kidAt W0 r.q) r.s.ks r.t.ks r.s.ks.length))) (hE : Ev (fun b => (Value.slice p ps.length c).ownBlock = some b) wr (fun b => wv'.ownBlock = some b) w') :
    Mt W0 g M (ps ++ kidsOf (kidAt W0 r.p) (kidAt W0 r.q) r.s.ks r.t.ks r.s.ks.length) fd fc wv' w' ∧ prCnt (ps ++ kidsOf (kidAt W0 r.p) (kidAt W0 r.q) r.s.ks r.t.ks r.s.ks.length) < prCnt (ps ++ [r]) := by
  have hr := h.prs r (by simp)
  have hob : ∀ b, (Value.slice p ps.length c).ownBlock = some b → W0.heap.size + 1 ≤ b := fun b hb => ((h.pop rfl).own.lt b hb).1
  have hsum : prCnt (kidsOf (kidAt W0 r.p) (kidAt W0 r.q) r.s.ks r.t.ks r.s.ks.length) = Tp.cntL r.s.ks := by
    have key : ∀ l : List Tp, ((List.range l.length).map fun i => (l.getD i (.mk 0 0 [])).cnt).sum = Tp.cntL l := by
      intro l
      induction l with
      | nil => rfl
      | cons x l ih =>
        rw [List.length_cons, List.range_succ_eq_map, List.map_cons, List.sum_cons, List.map_map, Tp.cntL]
        simp only [List.getD_cons_zero]
        congr 1
    unfold prCnt kidsOf
    rw [List.map_map]
    exact key r.s.ks
  have hcs : r.s.cnt = Tp.cntL r.s.ks + 1 := by
    obtain ⟨_, _, s, _⟩ := r
    cases s
    simp only [Tp.cnt, Tp.ks]
  have hlt : prCnt (ps ++ kidsOf (kidAt W0 r.p) (kidAt W0 r.q) r.s.ks r.t.ks r.s.ks.length) < prCnt (ps ++ [r]) := by
    rw [prCnt_app, prCnt_app, hsum]
    have : prCnt [r] = r.s.cnt := by simp [prCnt]
    omega
  refine ⟨⟨h.bl.trans (hE.below h.bl.size (fun b hb => by have := hob b hb; omega)), ⟨?_⟩, h.fl, h.fok, hown, fun x hx => ?_, by have := h.cnt; omega⟩, hlt⟩
  · rw [hE.block _ h.arr.lt (fun hb => by have := hob _ hb; omega)]
    exact h.arr.b
  · rcases List.mem_append.1 hx with hx | hx
    · exact h.prs x (List.mem_append_left _ hx)
    · obtain ⟨i, hi, rfl⟩ := List.mem_map.1 hx
      have hi := List.mem_range.1 hi
      have e1 : r.s.ks[i]? = some (r.s.ks.getD i (.mk 0 0 [])) := by rw [List.getD_eq_getElem?_getD, List.getElem?_eq_getElem hi]; rfl
      have e2 : r.t.ks[i]? = some (r.t.ks.getD i (.mk 0 0 [])) := by rw [List.getD_eq_getElem?_getD, List.getElem?_eq_getElem (by omega)]; rfl
      have hm1 := List.mem_of_getElem? e1
      have hm2 := List.mem_of_getElem? e2
      obtain ⟨r1, r2, r3, r4, r5⟩ := hr
      rw [Tp.right_eq, Bool.and_eq_true] at r3 r4
      refine ⟨r1.kid e1, r2.kid e2, Tp.rightL_mem r3.2 _ hm1, Tp.rightL_mem r4.2 _ hm2, fun n hn => r5 n ?_⟩
      rw [Tp.all_eq, if_neg hk, List.nil_append]
      exact Tp.mem_allL.2 ⟨_, hm1, hn⟩
theorem Mt.cells {W0 : World} {g M : Nat} {ps : List Pr} {r : Pr} {fd : List (Option Tp)} {fc : List Value} {p : Option Addr} {c : Nat} {wr : World} (h : Mt W0 g M (ps ++ [r]) fd fc (.slice p (ps ++ [r]).length c) wr) : ∃ b, p = some ⟨b, 0, none⟩ ∧ wr.cell? ⟨b, ps.length * 2, none⟩ = some r.p ∧ wr.cell? ⟨b, ps.length * 2 + 1, none⟩ = some r.q ∧ ps.length + 1 ≤ c ∧ c ≤ maxLen := by
  rcases h.own.2 with ⟨-, hz⟩ | ⟨b, cap, cur, hv, h1, h2, h3, h4, h5, h6⟩
  · rw [List.length_append] at hz; simp at hz
  · injection hv with e1 e2 e3
    subst e1
    subst e3
    have hc := h.own.cells (g := b) rfl
    have e0 : (prCells (ps ++ [r]))[ps.length * 2]? = some r.p := by rw [prCells_app, List.getElem?_append_right (by rw [prCells_len]; omega), prCells_len]; simp [prCells]
    have e1 : (prCells (ps ++ [r]))[ps.length * 2 + 1]? = some r.q := by rw [prCells_app, List.getElem?_append_right (by rw [prCells_len]; omega), prCells_len]; simp [prCells]
    refine ⟨b, rfl, ?_, ?_, by rw [List.length_append] at h3; exact h3, h4⟩
    · have := hc _ _ e0; rw [addr_add] at this; simpa using this
    · have := hc _ _ e1; rw [addr_add] at this; simpa using this
end Go.Proofs.Ythijckdhndbdoaa
