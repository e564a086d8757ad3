/- numbers, Stamps, Metas, Gens. The document's own: found, Stamps, Metas, Gens. Two numbers replaced one after the other are as replaced at once: mathematics. The stamps of what is replaced: mathematics. The document's own: Stamps, Metas, Gens, Closed. The document's Right. The document's Type. The document's around. The document's RightScheme. The document's Scheme. -/
import Derived.Test.YtigliglmejkakaaGreatRah
import Derived.Test.YtigliglmejkakaaGreatRac
import Derived.Test.YtigliglmejkakaaGreatRaa
import Derived.Test.YtigliglmejkakaaGreatRad
import Derived.Test.YtigliglmejkakaaGreatRab
import Derived.Test.YtigliglmejkakaaGreatRag
import Derived.Test.YtigliglmejkakaaGreatRae
namespace Go.Proofs.YtigliglmejkakaaGreat
open Go.RowKit
set_option linter.unusedVariables false
set_option linter.unusedSimpArgs false

def IGth (M C : Nat) (kind : Int) (s : List Int) (own : Nat → Prop) (w : World) : Prop := ∃ lv, Gth M C kind lv s w ∧ own = Og M C lv
theorem IGth.steady (M C : Nat) (kind : Int) : Steady (IGth M C kind) := by
  refine ⟨fun s own w w' ⟨lv, h, e⟩ hb => ⟨lv, h.stays hb, e⟩, fun s own w b ⟨lv, h, e⟩ ho => ?_⟩
  rw [e] at ho
  rcases ho with rfl | rfl | ho
  · exact h.b.lt
  · exact Nat.lt_trans h.lt h.b.lt
  · exact (h.own.lt b ho).2
theorem fTake_len (kind : Int) (s : List Int) (t : Tp) : (Tp.fTake kind s t).1.length ≤ s.length + 1 := by
  unfold Tp.fTake Tp.ins
  simp only
  split
  · split
    · omega
    · simp
  · omega
theorem take_see (M C : Nat) (kind : Int) (o0 : Nat → Prop) (w0 : World) (n : Nat) : SeeOfB List.length 1048576 79 #[.pointer (some ⟨M, 0, none⟩)] (Tp.fTake kind) (IGth M C kind) o0 w0 n := by
  intro w own s vs t hI hE hT hs
  obtain ⟨lv, hG, rfl⟩ := hI
  cases n with
  | zero => exact hT.elim
  | succ n =>
  obtain ⟨v, rfl, -, hn, -⟩ := hT.open_
  refine (take_any M C kind lv s w t.k t.n v hG hn hs).mono ?_
  rintro e w' ⟨rfl, lv', h1, h2⟩
  exact ⟨rfl, _, ⟨lv', h1, rfl⟩, h2⟩
theorem enters_take : Enters 79 := enters_of Tryz.func79 (by kernel_rfl) rfl
theorem gth_new (w : World) (kind : Int) (o : Obj) : Gth (w.heap.size + 1 + 1) (w.heap.size + 1) kind (.slice none 0 0) [] (((w.alloc o).alloc (.map #[] 0)).alloc (.cells #[.int .i64 kind, .slice none 0 0, .map (some (w.heap.size + 1))] 160)) := by
  refine ⟨⟨?_⟩, World.ownsRow_nil _ _ _ _, ?_, Nat.lt_succ_self _⟩
  · have := heap_alloc_at ((w.alloc o).alloc (.map #[] 0)) (.cells #[.int .i64 kind, .slice none 0 0, .map (some (w.heap.size + 1))] 160)
    rw [size_alloc, size_alloc] at this
    exact this
  · have := told_new (w.alloc o)
    rw [size_alloc] at this
    exact this.stays (bl_alloc (Below.refl _ _) _)

set_option maxHeartbeats 1000000 in
set_option maxRecDepth 100000 in
theorem numbers_any (w : World) (n : Nat) (vs : List Value) (t : Tp) (kind : Int) (hT : TAt w Any n vs t) (hc : t.cnt ≤ 1048576) : Calls Tryz.prog 38 #[.agg vs.toArray, .int .i64 kind] w fun e w' => ∃ v, e = .returned v ∧ Ls w' Any v (Tp.found kind t []) ∧ Below w.heap.size w w' := by
  have hq : Hid (∀ o, Calls Tryz.prog 30 #[.agg vs.toArray, .func (.func 79) #[.pointer (some ⟨w.heap.size + 1 + 1, 0, none⟩)] #[]] (((w.alloc o).alloc (.map #[] 0)).alloc (.cells #[.int .i64 kind, .slice none 0 0, .map (some (w.heap.size + 1))] 160)) fun e w' => e = .returned (.bool true) ∧ ∃ p c, Gth (w.heap.size + 1 + 1) (w.heap.size + 1) kind (.slice p (Tp.found kind t []).length c) (Tp.found kind t []) w' ∧ Below w.heap.size w w') := by
    intro o
    have hb : Below w.heap.size w (((w.alloc o).alloc (.map #[] 0)).alloc (.cells #[.int .i64 kind, .slice none 0 0, .map (some (w.heap.size + 1))] 160)) := bl_alloc (bl_alloc (bl_alloc (Below.refl _ _) _) _) _
    have hT1 : TAt (((w.alloc o).alloc (.map #[] 0)).alloc (.cells #[.int .i64 kind, .slice none 0 0, .map (some (w.heap.size + 1))] 160)) (fun b => ¬ Og (w.heap.size + 1 + 1) (w.heap.size + 1) (.slice none 0 0) b) n vs t := (TAt.old hT).move (Keeps.of_below hb) fun b h ho => by
      rcases ho with ho | ho | ho
      · omega
      · omega
      · cases ho
    refine (walk_anyB List.length 1048576 _ _ (Tp.fTake kind) (IGth (w.heap.size + 1 + 1) (w.heap.size + 1) kind) _ _ (fTake_len kind) (IGth.steady _ _ kind) enters_take (take_see _ _ kind _ _) n _ _ [] vs t ⟨_, gth_new w kind o, rfl⟩ (Ev.refl _ _) (TAt.oldK hT1) (by rw [List.length_nil]; omega)).mono ?_
    rintro e w' ⟨rfl, own', ⟨lv, hG, rfl⟩, hE⟩
    rw [Tp.walk_take] at hG ⊢
    obtain ⟨p, c, rfl⟩ := own_form hG.own
    refine ⟨rfl, p, c, hG, hb.trans (hE.below (by simp; omega) (fun b hb => ?_))⟩
    rcases hb with hb | hb | hb
    · omega
    · omega
    · cases hb
  obtain ⟨a, c, rfl⟩ := hT.form
  clear hT hc
  have hmm := @run_makeMap Tryz.prog
  go_enter Tryz.func38, Tryz.ntmps38
  go_wp2_with (go_at_call 30; refine (hq.out _).mono ?_; rintro e w2 ⟨rfl, p2, c2, hG2, hb2⟩; have HG : Hid (Gth _ _ _ _ _ w2) := hG2; have k1 := hG2.b.cell; clear hG2)
  go_ret
  exact ⟨_, rfl, Ls.of_own HG.out.own, hb2⟩

set_option maxRecDepth 100000 in
theorem Stamps_any (w : World) (n : Nat) (vs : List Value) (t : Tp) (hT : TAt w Any n vs t) (hc : t.cnt ≤ 1048576) : Calls Tryz.prog 14 #[.agg vs.toArray] w fun e w' => ∃ v, e = .returned v ∧ Ls w' Any v (Tp.found 6 t []) ∧ Below w.heap.size w w' := by
  have hq : Hid (∀ o, Calls Tryz.prog 38 #[.agg vs.toArray, .int .i64 6] (w.alloc o) fun e w' => ∃ v, e = .returned v ∧ Ls w' Any v (Tp.found 6 t []) ∧ Below w.heap.size w w') := fun o => (numbers_any _ n vs t 6 (hT.below (bl_alloc (Below.refl _ _) _)) hc).mono fun e w' ⟨v, h1, h2, h3⟩ => ⟨v, h1, h2, bl_tr (bl_alloc (Below.refl _ _) _) h3⟩
  obtain ⟨a, c, rfl⟩ := hT.form
  clear hT hc
  go_enter Tryz.func14, Tryz.ntmps14
  go_wp2_with (go_at_call 38; refine (hq.out _).mono ?_; rintro e w2 ⟨v2, rfl, h2, hb2⟩; obtain ⟨p2, c2, rfl, -⟩ := h2.form; have H2 : Hid (Ls w2 Any _ _) := h2; clear h2)
  go_ret
  exact ⟨_, rfl, H2.out, hb2⟩

set_option maxRecDepth 100000 in
theorem Metas_any (w : World) (n : Nat) (vs : List Value) (t : Tp) (hT : TAt w Any n vs t) (hc : t.cnt ≤ 1048576) : Calls Tryz.prog 40 #[.agg vs.toArray] w fun e w' => ∃ v, e = .returned v ∧ Ls w' Any v (Tp.found 7 t []) ∧ Below w.heap.size w w' := by
  have hq : Hid (∀ o, Calls Tryz.prog 38 #[.agg vs.toArray, .int .i64 7] (w.alloc o) fun e w' => ∃ v, e = .returned v ∧ Ls w' Any v (Tp.found 7 t []) ∧ Below w.heap.size w w') := fun o => (numbers_any _ n vs t 7 (hT.below (bl_alloc (Below.refl _ _) _)) hc).mono fun e w' ⟨v, h1, h2, h3⟩ => ⟨v, h1, h2, bl_tr (bl_alloc (Below.refl _ _) _) h3⟩
  obtain ⟨a, c, rfl⟩ := hT.form
  clear hT hc
  go_enter Tryz.func40, Tryz.ntmps40
  go_wp2_with (go_at_call 38; refine (hq.out _).mono ?_; rintro e w2 ⟨v2, rfl, h2, hb2⟩; obtain ⟨p2, c2, rfl, -⟩ := h2.form; have H2 : Hid (Ls w2 Any _ _) := h2; clear h2)
  go_ret
  exact ⟨_, rfl, H2.out, hb2⟩

set_option maxRecDepth 100000 in
theorem Gens_any (w : World) (n : Nat) (vs : List Value) (t : Tp) (hT : TAt w Any n vs t) (hc : t.cnt ≤ 1048576) : Calls Tryz.prog 80 #[.agg vs.toArray] w fun e w' => ∃ v, e = .returned v ∧ Ls w' Any v (Tp.found 8 t []) ∧ Below w.heap.size w w' := by
  have hq : Hid (∀ o, Calls Tryz.prog 38 #[.agg vs.toArray, .int .i64 8] (w.alloc o) fun e w' => ∃ v, e = .returned v ∧ Ls w' Any v (Tp.found 8 t []) ∧ Below w.heap.size w w') := fun o => (numbers_any _ n vs t 8 (hT.below (bl_alloc (Below.refl _ _) _)) hc).mono fun e w' ⟨v, h1, h2, h3⟩ => ⟨v, h1, h2, bl_tr (bl_alloc (Below.refl _ _) _) h3⟩
  obtain ⟨a, c, rfl⟩ := hT.form
  clear hT hc
  go_enter Tryz.func80, Tryz.ntmps80
  go_wp2_with (go_at_call 38; refine (hq.out _).mono ?_; rintro e w2 ⟨v2, rfl, h2, hb2⟩; obtain ⟨p2, c2, rfl, -⟩ := h2.form; have H2 : Hid (Ls w2 Any _ _) := h2; clear h2)
  go_ret
  exact ⟨_, rfl, H2.out, hb2⟩

end Go.Proofs.YtigliglmejkakaaGreat

namespace Go.Proofs.YtigliglmejkakaaGreat
open Go.RowKit
set_option linter.unusedVariables false
set_option linter.unusedSimpArgs false

theorem wpList_append2 {P : Program} {ops : Array Oper} {rest : List Oper} {o : Oper} {a : Act} {w : World} {Q : Exit → Act → World → Prop} (hgd : o.guard = none) (s x : Operand) (t : TypeId) (hop : o.op = .call { callee := .builtin .append, args := #[s, x], argTypes := #[t, t] })
    (base : Nat) (e : TypeId) (i : TypeInfo) (z : Value) (size bytes : Nat) (ht : P.underlying t = some (.slice e)) (hi : P.info? e = some i) (hz : i.zero = some z)
    (hsize : i.size = size) (hby : i.bytes = bytes) (hzs : z.cells.size = size) (hsz : 0 < size) (v : Value) (n : Nat) (xs : List Value) (hs : a.eval s = v) (hown : w.ownsRow base e size v n xs)
    (ad : Addr) (m c : Nat) (news : List Value) (hx : a.eval x = .slice (some ad) m c) (hl : news.length = m * size) (hnews : ∀ j u, news[j]? = some u → w.cell? (ad.add j) = some u) (h1 : ∀ u ∈ news, u.oneCell' = true)
    (h63 : n + m ≤ maxLen) (hbytes : (n + m) * bytes ≤ 140737488355328) (hbase : base ≤ w.heap.size)
    (hK : ∀ v' w', w'.ownsRow base e size v' (n + m) (xs ++ news) → w.grownBy w' v.ownBlock → Fresh w v v' → wpList P ops Q rest (a.put o.dst v') w') : wpList P ops Q (o :: rest) a w := by
  refine wpList_plain hgd fun K hK2 => ?_
  obtain ⟨v', w', hr, h2, h3, h4⟩ := append_own2 (P := P) w base t o.type e i z size bytes ht hi hz hsize hby hzs hsz v n xs hown ad m c news hl hnews h1 h63 hbytes hbase
  unfold Oper.wp execOp
  simp only [hop, resolve, invoke, builtin, Sem.run_bind, Sem.run_pure, Result.andThen_ok, List.map_toArray, List.map_cons, List.map_nil, hs, hx, hr]
  exact hK2 _ _ (hK v' w' h2 h3 h4)
/-- The list's own block. -/
def Ow (lv : Value) : Nat → Prop := fun b => lv.ownBlock = some b
theorem Tp.found_lenD (kind : Int) (t : Tp) (s : List Int) : (Tp.found kind t s).length ≤ s.length + t.cnt := by
  have h := Tp.walk_sz (sz := List.length) (fTake_len kind) t s
  rw [Tp.walk_take] at h
  exact h
theorem Tp.foundL_at {kind : Int} {xs : List Tp} {k : Nat} {x : Tp} (hx : xs[k]? = some x) (s : List Int) : Tp.foundL kind (xs.drop k) s = Tp.foundL kind (xs.drop (k + 1)) (Tp.found kind x s) := by
  obtain ⟨h1, e1⟩ := List.getElem?_eq_some_iff.1 hx
  rw [List.drop_eq_getElem_cons h1, e1, Tp.foundL_cons]
structure Fst (w : World) (B : Nat) (bx : List Value) (lv0 lv : Value) (s : List Int) (wr : World) : Prop where
  own : wr.ownsRow B 3 1 lv s.length (s.map (.int .i64))
  ev : Ev (Ow lv0) w (Ow lv) wr
  b : Arr wr w.heap.size 24 bx
  ne : lv.ownBlock ≠ some w.heap.size
theorem Fst.next {w : World} {B : Nat} {bx : List Value} {lv0 lv lv' : Value} {s s' : List Int} {wr w' : World} (h : Fst w B bx lv0 lv s wr) (ho : w'.ownsRow B 3 1 lv' s'.length (s'.map (.int .i64))) (he : Ev (Ow lv) wr (Ow lv') w') : Fst w B bx lv0 lv' s' w' := by
  refine ⟨ho, h.ev.trans he, ⟨?_⟩, fun e => ?_⟩
  · rw [he.block _ h.b.lt h.ne]; exact h.b.b
  · rcases he.mine _ e with h1 | h1
    · exact h.ne h1
    · have := h.b.lt; omega
theorem Fst.stays {w : World} {B : Nat} {bx : List Value} {lv0 lv : Value} {s : List Int} {wr w' : World} (h : Fst w B bx lv0 lv s wr) (hb : Below wr.heap.size wr w') : Fst w B bx lv0 lv s w' := ⟨own_stays h.own hb, h.ev.trans (Ev.of_below hb), h.b.stays hb, h.ne⟩
theorem Ev.app {lv lv' : Value} {w w' : World} (hg : w.grownBy w' lv.ownBlock) (hf : Fresh w lv lv') : Ev (Ow lv) w (Ow lv') w' := by
  obtain ⟨g1, g2, g3, g4, g5⟩ := hg
  refine ⟨g1, g2, g3, g4, fun b hb => ?_, fun b hb hn => g5 b hb (fun e => hn e.symm)⟩
  rcases hf with hf | hf
  · exact .inl (by show lv.ownBlock = some b; rw [← hf]; exact hb)
  · exact .inr (hf b hb)

end Go.Proofs.YtigliglmejkakaaGreat

namespace Go.Proofs.YtigliglmejkakaaGreat
open Go.RowKit
set_option linter.unusedVariables false

theorem Tp.mem_ins {l : List Int} {n x : Int} : x ∈ Tp.ins l n ↔ x ∈ l ∨ x = n := by
  unfold Tp.ins
  split
  · rename_i h
    constructor
    · exact .inl
    · rintro (h1 | rfl)
      · exact h1
      · exact h
  · simp
mutual
theorem Tp.found_mono (kind : Int) (x : Int) : ∀ (t : Tp) (l : List Int), x ∈ l → x ∈ Tp.found kind t l
  | .mk k n ks, l, h => by
    rw [Tp.found_mk]
    refine Tp.foundL_mono kind x ks _ ?_
    split
    · exact Tp.mem_ins.2 (.inl h)
    · exact h
theorem Tp.foundL_mono (kind : Int) (x : Int) : ∀ (ts : List Tp) (l : List Int), x ∈ l → x ∈ Tp.foundL kind ts l
  | [], l, h => by rw [Tp.foundL_nil]; exact h
  | t :: r, l, h => by rw [Tp.foundL_cons]; exact Tp.foundL_mono kind x r _ (Tp.found_mono kind x t l h)
end
theorem Tp.by_one (kind n : Int) (u : Tp) (k x : Int) : Tp.by kind [n] [u] k x = if k = kind then (if n = x then some u else none) else none := by
  unfold Tp.by Tp.idx Tp.idx
  by_cases h : k = kind
  · rw [if_pos h, if_pos h]
    by_cases h2 : n = x
    · simp [h2]
    · simp [h2]
  · rw [if_neg h, if_neg h]
theorem Tp.by_two (kind n m : Int) (u v : Tp) (k x : Int) : Tp.by kind [n, m] [u, v] k x = if k = kind then (if n = x then some u else if m = x then some v else none) else none := by
  unfold Tp.by Tp.idx Tp.idx Tp.idx
  by_cases h : k = kind
  · rw [if_pos h, if_pos h]
    by_cases h2 : n = x
    · simp [h2]
    · by_cases h3 : m = x
      · simp [h2, h3]
      · simp [h2, h3]
  · rw [if_neg h, if_neg h]
mutual
/-- What does not stand there is not replaced. -/
theorem Tp.put_not (kind m : Int) (v : Tp) : ∀ (t : Tp) (l : List Int), m ∉ Tp.found kind t l → Tp.put kind [m] [v] t = t
  | .mk k n ks, l, h => by
    rw [Tp.found_mk] at h
    have hb : Tp.by kind [m] [v] k n = none := by
      rw [Tp.by_one]
      by_cases hk : k = kind
      · rw [if_pos hk]
        by_cases hn : m = n
        · exact absurd (Tp.foundL_mono kind m ks _ (by rw [if_pos hk]; exact Tp.mem_ins.2 (.inr hn))) h
        · rw [if_neg hn]
      · rw [if_neg hk]
    rw [Tp.put, hb]
    show Tp.mk k n (Tp.putL kind [m] [v] ks) = _
    rw [Tp.putL_not kind m v ks _ h]
theorem Tp.putL_not (kind m : Int) (v : Tp) : ∀ (ts : List Tp) (l : List Int), m ∉ Tp.foundL kind ts l → Tp.putL kind [m] [v] ts = ts
  | [], l, h => by rw [Tp.putL]
  | t :: r, l, h => by
    rw [Tp.foundL_cons] at h
    rw [Tp.putL, Tp.putL_not kind m v r _ h, Tp.put_not kind m v t l (fun h1 => h (Tp.foundL_mono kind m r _ h1))]
end
mutual
theorem Tp.put_twice (kind n m : Int) (u v : Tp) (hne : n ≠ m) (hu : Tp.put kind [m] [v] u = u) : ∀ t : Tp, Tp.put kind [m] [v] (Tp.put kind [n] [u] t) = Tp.put kind [n, m] [u, v] t
  | .mk k x ks => by
    rw [Tp.put.eq_def kind [n, m] [u, v] (.mk k x ks), Tp.put.eq_def kind [n] [u] (.mk k x ks)]
    simp only [Tp.by_one, Tp.by_two]
    by_cases hk : k = kind
    · simp only [if_pos hk]
      by_cases h1 : n = x
      · simp only [if_pos h1]; exact hu
      · simp only [if_neg h1]
        rw [Tp.put, Tp.by_one, if_pos hk]
        by_cases h2 : m = x
        · simp only [if_pos h2]
        · simp only [if_neg h2]
          rw [Tp.putL_twice kind n m u v hne hu ks]
    · simp only [if_neg hk]
      rw [Tp.put, Tp.by_one, if_neg hk]
      show Tp.mk _ _ _ = _
      rw [Tp.putL_twice kind n m u v hne hu ks]
theorem Tp.putL_twice (kind n m : Int) (u v : Tp) (hne : n ≠ m) (hu : Tp.put kind [m] [v] u = u) : ∀ ts : List Tp, Tp.putL kind [m] [v] (Tp.putL kind [n] [u] ts) = Tp.putL kind [n, m] [u, v] ts
  | [] => by rw [Tp.putL, Tp.putL, Tp.putL]
  | t :: r => by rw [Tp.putL.eq_def kind [n] [u] (t :: r), Tp.putL.eq_def kind [n, m] [u, v] (t :: r)]; simp only; rw [Tp.putL, Tp.put_twice kind n m u v hne hu t, Tp.putL_twice kind n m u v hne hu r]
end
end Go.Proofs.YtigliglmejkakaaGreat

namespace Go.Proofs.YtigliglmejkakaaGreat
open Go.RowKit
set_option linter.unusedVariables false

mutual
/-- Does the number stand in a node of the kind? -/
def Tp.st (kind x : Int) : Tp → Prop
  | .mk k n ks => (k = kind ∧ n = x) ∨ Tp.stL kind x ks
def Tp.stL (kind x : Int) : List Tp → Prop
  | [] => False
  | t :: r => Tp.st kind x t ∨ Tp.stL kind x r
end
mutual
theorem Tp.mem_found (kind x : Int) : ∀ (t : Tp) (l : List Int), x ∈ Tp.found kind t l ↔ x ∈ l ∨ Tp.st kind x t
  | .mk k n ks, l => by
    rw [Tp.found_mk, Tp.mem_foundL kind x ks, Tp.st]
    by_cases h : k = kind
    · rw [if_pos h, Tp.mem_ins]
      constructor
      · rintro ((h1 | h1) | h1)
        · exact .inl h1
        · exact .inr (.inl ⟨h, h1.symm⟩)
        · exact .inr (.inr h1)
      · rintro (h1 | h1 | h1)
        · exact .inl (.inl h1)
        · exact .inl (.inr h1.2.symm)
        · exact .inr h1
    · rw [if_neg h]
      constructor
      · rintro (h1 | h1)
        · exact .inl h1
        · exact .inr (.inr h1)
      · rintro (h1 | h1 | h1)
        · exact .inl h1
        · exact absurd h1.1 h
        · exact .inr h1
theorem Tp.mem_foundL (kind x : Int) : ∀ (ts : List Tp) (l : List Int), x ∈ Tp.foundL kind ts l ↔ x ∈ l ∨ Tp.stL kind x ts
  | [], l => by rw [Tp.foundL_nil, Tp.stL]; simp
  | t :: r, l => by rw [Tp.foundL_cons, Tp.mem_foundL kind x r, Tp.mem_found kind x t, Tp.stL, or_assoc]
end
theorem Tp.own_leaf {n : Int} {c : Nat} (h : Tp.own 6 n c = true) : c = 0 := by
  unfold Tp.own at h
  simp at h
  omega
mutual
/-- A right type's stamps behind a replacing. -/
theorem Tp.st_put (n : Int) (u : Tp) (x : Int) : ∀ t : Tp, t.right = true → (Tp.st 6 x (Tp.put 6 [n] [u] t) ↔ (Tp.st 6 x t ∧ x ≠ n) ∨ (Tp.st 6 n t ∧ Tp.st 6 x u))
  | .mk k y ks, h => by
    rw [Tp.right, Bool.and_eq_true] at h
    have ih := Tp.stL_put n u x ks h.2
    rw [Tp.put, Tp.by_one]
    by_cases hk : k = 6
    · subst hk
      have h0 : ks = [] := List.eq_nil_of_length_eq_zero (Tp.own_leaf h.1)
      subst h0
      rw [if_pos rfl]
      by_cases hn : n = y
      · subst hn
        rw [if_pos rfl]
        simp only [Tp.st, Tp.stL, or_false, true_and]
        constructor
        · exact .inr
        · rintro (⟨h1, h2⟩ | h1)
          · exact absurd h1.symm h2
          · exact h1
      · rw [if_neg hn]
        simp only [Tp.st, Tp.stL, Tp.putL, or_false, true_and]
        constructor
        · intro h1; exact .inl ⟨h1, fun e => hn (by rw [h1, e])⟩
        · rintro (h1 | h1)
          · exact h1.1
          · exact absurd h1.1.symm hn
    · rw [if_neg hk]
      simp only [Tp.st, hk, false_and, false_or]
      exact ih
theorem Tp.stL_put (n : Int) (u : Tp) (x : Int) : ∀ ts : List Tp, Tp.rightL ts = true → (Tp.stL 6 x (Tp.putL 6 [n] [u] ts) ↔ (Tp.stL 6 x ts ∧ x ≠ n) ∨ (Tp.stL 6 n ts ∧ Tp.st 6 x u))
  | [], _ => by simp [Tp.putL, Tp.stL]
  | t :: r, h => by
    rw [Tp.rightL, Bool.and_eq_true] at h
    rw [Tp.putL, Tp.stL, Tp.stL, Tp.stL, Tp.st_put n u x t h.1, Tp.stL_put n u x r h.2]
    constructor
    · rintro ((h1 | h1) | (h1 | h1))
      · exact .inl ⟨.inl h1.1, h1.2⟩
      · exact .inr ⟨.inl h1.1, h1.2⟩
      · exact .inl ⟨.inr h1.1, h1.2⟩
      · exact .inr ⟨.inr h1.1, h1.2⟩
    · rintro (⟨h1 | h1, h2⟩ | ⟨h1 | h1, h2⟩)
      · exact .inl (.inl ⟨h1, h2⟩)
      · exact .inr (.inl ⟨h1, h2⟩)
      · exact .inl (.inr ⟨h1, h2⟩)
      · exact .inr (.inr ⟨h1, h2⟩)
end
mutual
/-- A stamp put in for itself changes nothing. -/
theorem Tp.put_self (n : Int) : ∀ t : Tp, t.right = true → Tp.put 6 [n] [.mk 6 n []] t = t
  | .mk k y ks, h => by
    rw [Tp.right, Bool.and_eq_true] at h
    rw [Tp.put, Tp.by_one]
    by_cases hk : k = 6
    · subst hk
      have h0 : ks = [] := List.eq_nil_of_length_eq_zero (Tp.own_leaf h.1)
      subst h0
      rw [if_pos rfl]
      by_cases hn : n = y
      · subst hn
        rw [if_pos rfl]
      · rw [if_neg hn]
        simp only [Tp.putL]
    · rw [if_neg hk]
      simp only
      rw [Tp.putL_self n ks h.2]
theorem Tp.putL_self (n : Int) : ∀ ts : List Tp, Tp.rightL ts = true → Tp.putL 6 [n] [.mk 6 n []] ts = ts
  | [], _ => by rw [Tp.putL]
  | t :: r, h => by
    rw [Tp.rightL, Bool.and_eq_true] at h
    rw [Tp.putL, Tp.put_self n t h.1, Tp.putL_self n r h.2]
end
end Go.Proofs.YtigliglmejkakaaGreat

namespace Go.Proofs.YtigliglmejkakaaGreat
open Go.RowKit
set_option linter.unusedVariables false
set_option linter.unusedSimpArgs false

mutual
theorem Tp.spares_st (l : List Int) : ∀ t : Tp, Tp.spares l t = true ↔ ∀ k ∈ l, ∀ x, ¬ Tp.st k x t
  | .mk k n ks => by
    rw [Tp.spares, Bool.and_eq_true, Tp.sparesL_st l ks]
    constructor
    · rintro ⟨h1, h2⟩ j hj x hx
      rw [Tp.st] at hx
      rcases hx with hx | hx
      · rw [Bool.not_eq_true', decide_eq_false_iff_not] at h1
        exact h1 (by rw [hx.1]; exact hj)
      · exact h2 j hj x hx
    · intro h
      refine ⟨?_, fun j hj x hx => h j hj x (by rw [Tp.st]; exact .inr hx)⟩
      rw [Bool.not_eq_true', decide_eq_false_iff_not]
      exact fun hk => h k hk n (by rw [Tp.st]; exact .inl ⟨rfl, rfl⟩)
theorem Tp.sparesL_st (l : List Int) : ∀ ts : List Tp, Tp.sparesL l ts = true ↔ ∀ k ∈ l, ∀ x, ¬ Tp.stL k x ts
  | [] => by simp [Tp.sparesL, Tp.stL]
  | t :: r => by
    rw [Tp.sparesL, Bool.and_eq_true, Tp.spares_st l t, Tp.sparesL_st l r]
    constructor
    · rintro ⟨h1, h2⟩ j hj x hx
      rw [Tp.stL] at hx
      rcases hx with hx | hx
      · exact h1 j hj x hx
      · exact h2 j hj x hx
    · intro h
      exact ⟨fun j hj x hx => h j hj x (by rw [Tp.stL]; exact .inl hx), fun j hj x hx => h j hj x (by rw [Tp.stL]; exact .inr hx)⟩
end
theorem Tp.found_nil (k : Int) (t : Tp) : Tp.found k t [] = [] ↔ ∀ x, ¬ Tp.st k x t := by
  rw [List.eq_nil_iff_forall_not_mem]
  constructor
  · intro h x hx; exact h x ((Tp.mem_found k x t []).2 (.inr hx))
  · intro h x hx
    rcases (Tp.mem_found k x t []).1 hx with h1 | h1
    · cases h1
    · exact h x h1
theorem Tp.closed_eq (t : Tp) : Tp.spares [7, 8] t = ((((Tp.found 7 t []).length : Int) == 0) && (((Tp.found 8 t []).length : Int) == 0)) := by
  rw [Bool.eq_iff_iff, Tp.spares_st, Bool.and_eq_true, beq_iff_eq, beq_iff_eq]
  constructor
  · intro h
    have h7 := (Tp.found_nil 7 t).2 (h 7 (by simp))
    have h8 := (Tp.found_nil 8 t).2 (h 8 (by simp))
    rw [h7, h8]; exact ⟨rfl, rfl⟩
  · rintro ⟨h7, h8⟩ k hk
    have e7 := (Tp.found_nil 7 t).1 (List.eq_nil_of_length_eq_zero (by omega))
    have e8 := (Tp.found_nil 8 t).1 (List.eq_nil_of_length_eq_zero (by omega))
    simp at hk
    rcases hk with rfl | rfl
    · exact e7
    · exact e8

end Go.Proofs.YtigliglmejkakaaGreat

namespace Go.Proofs.YtigliglmejkakaaGreat
open Go.RowKit
set_option linter.unusedVariables false
set_option linter.unusedSimpArgs false

end Go.Proofs.YtigliglmejkakaaGreat

namespace Go.Proofs.YtigliglmejkakaaGreat
open Go.RowKit
set_option linter.unusedVariables false
set_option linter.unusedSimpArgs false

theorem results_cell2t {fn : Func} {p a : Tmp} {ty : TypeId} (h : fn.results = #[.cell p ty, .tmp a]) (tmps : Array Value) (P : Program) (w : World) :
    (results fn tmps).run P w = ((asAddr (tmps.getD p undef)).run P w).andThen fun ad w₁ => ((loadVar ty ad).run P w₁).andThen fun v w₂ => .ok (.tuple #[v, tmps.getD a undef]) w₂ := by
  simp only [results, h]
  simp [Sem.run_bind, Result.andThen]
/-- Does a type become a target type? -/
def Tp.okT (t : Tp) : Bool := t.right && (Tp.spares [7, 8] t && okStamps (Tp.found 6 t []))
theorem Tp.closed_all {t : Tp} (h : Tp.spares [7, 8] t = true) : ∀ x, x ∉ Tp.all 8 t := by
  intro x hx
  rw [Tp.closed_eq, Bool.and_eq_true] at h
  have h8 := h.2
  rw [beq_iff_eq] at h8
  have : (Tp.found 8 t []).length = 0 := by omega
  have h0 := List.eq_nil_of_length_eq_zero this
  have := (Tp.mem_fnd (kind := 8)).2 hx
  rw [h0] at this
  cases this
/-- What a call that makes a target type answers. -/
def TtAns (ok : Bool) (y : Tgt.Tt) (w : World) (e : Ending) (w' : World) : Prop :=
  (ok = true ∧ ∃ a c N, e = .returned (.tuple #[.agg #[.int .i64 y.k, .int .i64 y.n, .slice none 0 0, .slice a y.ks.length c], .int .i64 0]) ∧ Tgt.TAt w' (fun b => w.heap.size ≤ b) N [.int .i64 y.k, .int .i64 y.n, .slice none 0 0, .slice a y.ks.length c] y ∧ y.ls = []) ∨
  (ok = false ∧ e = .returned (.tuple #[.agg #[.int .i64 0, .int .i64 0, .slice none 0 0, .slice none 0 0], .int .i64 1]))

end Go.Proofs.YtigliglmejkakaaGreat

namespace Go.Proofs.YtigliglmejkakaaGreat
open Go.RowKit
set_option linter.unusedVariables false
set_option linter.unusedSimpArgs false

/-- A type with binders around it, the first one outermost. -/
def Tt.around (kind : Int) (l : List Int) (y : Tgt.Tt) : Tgt.Tt := l.foldr (fun n t => .mk kind n [] [t]) y
theorem around_at {kind : Int} {l : List Int} {k : Nat} {x : Int} (hx : l[k]? = some x) (y : Tgt.Tt) : Tt.around kind (l.drop k) y = .mk kind x [] [Tt.around kind (l.drop (k + 1)) y] := by
  obtain ⟨h1, e1⟩ := List.getElem?_eq_some_iff.1 hx
  rw [List.drop_eq_getElem_cons h1, e1]
  rfl
/-- One node around another. -/
theorem tat_wrap {W : World} {K : Nat → Prop} {N nb : Nat} {kind x : Int} {y : Tgt.Tt} {vs : List Value} (hk : Tgt.R64 kind) (hx : Tgt.R64 x) (hT : Tgt.TAt W K N vs y) (hnb : K nb) (hc : Tgt.Cells W nb 0 vs) : Tgt.TAt W K (N + 1) [.int .i64 kind, .int .i64 x, .slice none 0 0, .slice (some ⟨nb, 0, none⟩) 1 1] (.mk kind x [] [y]) := by
  refine ⟨_, _, rfl, hk, hx, .inr ⟨rfl, none, 0, rfl⟩, .inl ⟨nb, 0, 1, rfl, hnb, Nat.le_refl _, by unfold maxLen; simp [Tgt.Tt.ks], fun i z hz => ?_⟩⟩
  match i, hz with
  | 0, hz =>
    simp [Tgt.Tt.ks] at hz
    subst hz
    exact ⟨vs, by simpa using hc, hT⟩
  | i + 1, hz => simp [Tgt.Tt.ks] at hz

end Go.Proofs.YtigliglmejkakaaGreat

namespace Go.Proofs.YtigliglmejkakaaGreat
open Go.RowKit
set_option linter.unusedVariables false
set_option linter.unusedSimpArgs false

end Go.Proofs.YtigliglmejkakaaGreat

namespace Go.Proofs.YtigliglmejkakaaGreat
open Go.RowKit
set_option linter.unusedVariables false
set_option linter.unusedSimpArgs false

theorem ups_memt : ∀ (l : List Int) (i : Nat), Tp.ups l i = true → ∀ x, x ∈ l ↔ (i : Int) ≤ x ∧ x < i + l.length
  | [], i, _, x => by simp
  | y :: r, i, h, x => by
    rw [Tp.ups, Bool.and_eq_true, decide_eq_true_eq] at h
    rw [List.mem_cons, ups_memt r (i + 1) h.2, h.1]
    simp only [List.length_cons]
    omega
theorem rightS_allt {g : Int} {t : Tp} (h : Tp.rightS g t = true) (x : Int) : x ∈ Tp.all 8 t ↔ 0 ≤ x ∧ x < g := by
  unfold Tp.rightS at h
  simp only [Bool.and_eq_true, decide_eq_true_eq] at h
  rw [← Tp.mem_fnd, ups_memt _ 0 h.2.1]
  omega
theorem rightS_gt {g : Int} {t : Tp} (h : Tp.rightS g t = true) (hc : t.cnt ≤ 1048576) : 0 ≤ g ∧ g ≤ 1048576 := by
  unfold Tp.rightS at h
  simp only [Bool.and_eq_true, decide_eq_true_eq] at h
  have := Tp.found_lenD 8 t []
  simp at this
  omega
/-- One more than the greatest, 0 of none. -/
def topK (l : List Int) : Int := l.foldl (fun k x => if k ≤ x then x + 1 else k) 0
theorem topK_take {l : List Int} {i : Nat} {x : Int} (hx : l[i]? = some x) : topK (l.take (i + 1)) = if topK (l.take i) ≤ x then x + 1 else topK (l.take i) := by
  unfold topK
  rw [List.take_add_one, hx, List.foldl_append]
  rfl
theorem okStamps_mem {l : List Int} (h : okStamps l = true) : ∀ x ∈ l, 0 ≤ x ∧ x ≤ 2147483647 := by
  unfold okStamps at h
  rw [List.all_eq_true] at h
  exact fun x hx => by simpa using h x hx
theorem topK_le {l : List Int} (h : okStamps l = true) : ∀ i, i ≤ l.length → 0 ≤ topK (l.take i) ∧ topK (l.take i) ≤ 2147483648
  | 0, _ => by simp [topK]
  | i + 1, hi => by
    obtain ⟨x, hx⟩ : ∃ x, l[i]? = some x := ⟨_, List.getElem?_eq_getElem (by omega)⟩
    have := topK_le h i (by omega)
    have h2 := okStamps_mem h x (List.mem_of_getElem? hx)
    rw [topK_take hx]
    split <;> omega
/-- So many numbers from one on. -/
def numsT (k : Int) (g : Nat) : List Int := (List.range g).map fun (i : Nat) => k + (i : Int)
theorem numsT_succ (k : Int) (g : Nat) : numsT k (g + 1) = numsT k g ++ [k + (g : Int)] := by unfold numsT; rw [List.range_succ, List.map_append]; rfl
theorem numsT_len (k : Int) (g : Nat) : (numsT k g).length = g := by simp [numsT]
def Tp.okS (g : Int) (t : Tp) : Bool := Tp.rightS g t && (decide ((Tp.found 7 t []).length = 0) && okStamps (Tp.found 6 t []))
/-- The target type of a scheme. -/
def Tp.schemeT (g : Int) (t : Tp) : Tgt.Tt := Tt.around 10 (numsT (topK (Tp.found 6 t [])) g.toNat) (Tp.made (topK (Tp.found 6 t [])) t)
/-- What a call that makes a target type answers, wherever its labels lie. -/
def TtAns2 (ok : Bool) (y : Tgt.Tt) (w : World) (e : Ending) (w' : World) : Prop :=
  (ok = true ∧ ∃ a' c' a c N, e = .returned (.tuple #[.agg #[.int .i64 y.k, .int .i64 y.n, .slice a' y.ls.length c', .slice a y.ks.length c], .int .i64 0]) ∧ Tgt.TAt w' (fun b => w.heap.size ≤ b) N [.int .i64 y.k, .int .i64 y.n, .slice a' y.ls.length c', .slice a y.ks.length c] y) ∨
  (ok = false ∧ e = .returned (.tuple #[.agg #[.int .i64 0, .int .i64 0, .slice none 0 0, .slice none 0 0], .int .i64 1]))
theorem TtAns.two {ok : Bool} {y : Tgt.Tt} {w : World} {e : Ending} {w' : World} (h : TtAns ok y w e w') : TtAns2 ok y w e w' := by
  rcases h with ⟨h1, a, c, N, h2, h3, h4⟩ | h
  · have hl : y.ls.length = 0 := by rw [h4]; rfl
    exact .inl ⟨h1, none, 0, a, c, N, by rw [hl]; exact h2, by rw [hl]; exact h3⟩
  · exact .inr h
/-- A list of numbers of one's own, behind two boxes. -/
structure Nst (w : World) (cs : List Value) (k : Int) (i : Nat) (v : Value) (wr : World) : Prop where
  bl : Below w.heap.size w wr
  a0 : Arr wr w.heap.size 42 cs
  a1 : Arr wr (w.heap.size + 1) 28 [.int .i64 0, .int .i64 0, .slice none 0 0, .slice none 0 0]
  own : wr.ownsRow (w.heap.size + 2) 3 1 v i ((numsT k i).map (.int .i64))
theorem Nst.app {w : World} {cs : List Value} {k : Int} {i : Nat} {v v' : Value} {wr w1 w2 : World} (h : Nst w cs k i v wr) (hb : Below wr.heap.size wr w1) (ho : w2.ownsRow (w.heap.size + 2) 3 1 v' (i + 1) ((numsT k i).map (.int .i64) ++ [.int .i64 (k + (i : Int))])) (hg : w1.grownBy w2 v.ownBlock) : Nst w cs k (i + 1) v' w2 := by
  have hrow : ∀ b, v.ownBlock = some b → w.heap.size + 2 ≤ b := fun b hb => (h.own.lt b hb).1
  have hsz := h.a1.lt
  refine ⟨(bl_tr h.bl hb).grown hg (by have := hb.size; omega) (fun b e => by have := hrow b e; omega), (h.a0.stays hb).grown hg (fun e => by have := hrow _ e.symm; omega), (h.a1.stays hb).grown hg (fun e => by have := hrow _ e.symm; omega), ?_⟩
  rw [numsT_succ, List.map_append]
  exact ho
theorem Nst.ls {w : World} {cs : List Value} {k : Int} {i : Nat} {v : Value} {wr : World} (h : Nst w cs k i v wr) : Ls wr Any v (numsT k i) := by
  rcases h.own.2 with ⟨rfl, h0⟩ | ⟨g, cap, cur, rfl, hb, hh, hle, hcm, hsz, htk⟩
  · exact .inr ⟨by rw [h0]; rfl, none, 0, rfl⟩
  · refine .inl ⟨g, 0, cap, by rw [numsT_len], trivial, by rw [numsT_len]; exact hle, by rw [numsT_len]; omega, fun j x hx => ?_⟩
    have hq : ((numsT k i).map (Value.int IntKind.i64))[j]? = some (.int .i64 x) := by rw [List.getElem?_map, hx]; rfl
    rw [← htk, List.getElem?_take] at hq
    split at hq
    · rw [cell_at hh, Nat.zero_add]
      rw [Array.getElem?_toList] at hq
      exact hq
    · cases hq

end Go.Proofs.YtigliglmejkakaaGreat
