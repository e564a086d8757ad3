/- The document's Scheme. Constructors in memory; the document's Con. The document's Sum. The program's makers of target types: leaf, variable, both, binder. -/
import Derived.Test.YtigliglmejkakabQai
import Derived.Test.YtigliglmejkakabQad
namespace Go.Proofs.Ytigliglmejkakab
open Go.RowKit
set_option linter.unusedVariables false
set_option linter.unusedSimpArgs false

theorem ups_memt : ∀ (l : List Int) (i : Nat), Tp.ups l i = true → ∀ x, x ∈ l ↔ (i : Int) ≤ x ∧ x < i + l.length
  | [], i, _, x => by simp
  | y :: r, i, h, x => by
    rw [Tp.ups, Bool.and_eq_true, decide_eq_true_eq] at h
    rw [List.mem_cons, ups_memt r (i + 1) h.2, h.1]
    simp only [List.length_cons]
    omega
theorem rightS_allt {g : Int} {t : Tp} (h : Tp.rightS g t = true) (x : Int) : x ∈ Tp.all 8 t ↔ 0 ≤ x ∧ x < g := by
  unfold Tp.rightS at h
  simp only [Bool.and_eq_true, decide_eq_true_eq] at h
  rw [← Tp.mem_fnd, ups_memt _ 0 h.2.1]
  omega
theorem rightS_gt {g : Int} {t : Tp} (h : Tp.rightS g t = true) (hc : t.cnt ≤ 1048576) : 0 ≤ g ∧ g ≤ 1048576 := by
  unfold Tp.rightS at h
  simp only [Bool.and_eq_true, decide_eq_true_eq] at h
  have := Tp.found_lenD 8 t []
  simp at this
  omega
/-- One more than the greatest, 0 of none. -/
def topK (l : List Int) : Int := l.foldl (fun k x => if k ≤ x then x + 1 else k) 0
theorem topK_take {l : List Int} {i : Nat} {x : Int} (hx : l[i]? = some x) : topK (l.take (i + 1)) = if topK (l.take i) ≤ x then x + 1 else topK (l.take i) := by
  unfold topK
  rw [List.take_add_one, hx, List.foldl_append]
  rfl
theorem okStamps_mem {l : List Int} (h : okStamps l = true) : ∀ x ∈ l, 0 ≤ x ∧ x ≤ 2147483647 := by
  unfold okStamps at h
  rw [List.all_eq_true] at h
  exact fun x hx => by simpa using h x hx
theorem topK_le {l : List Int} (h : okStamps l = true) : ∀ i, i ≤ l.length → 0 ≤ topK (l.take i) ∧ topK (l.take i) ≤ 2147483648
  | 0, _ => by simp [topK]
  | i + 1, hi => by
    obtain ⟨x, hx⟩ : ∃ x, l[i]? = some x := ⟨_, List.getElem?_eq_getElem (by omega)⟩
    have := topK_le h i (by omega)
    have h2 := okStamps_mem h x (List.mem_of_getElem? hx)
    rw [topK_take hx]
    split <;> omega
/-- So many numbers from one on. -/
def numsT (k : Int) (g : Nat) : List Int := (List.range g).map fun (i : Nat) => k + (i : Int)
theorem numsT_succ (k : Int) (g : Nat) : numsT k (g + 1) = numsT k g ++ [k + (g : Int)] := by unfold numsT; rw [List.range_succ, List.map_append]; rfl
theorem numsT_len (k : Int) (g : Nat) : (numsT k g).length = g := by simp [numsT]
def Tp.okS (g : Int) (t : Tp) : Bool := Tp.rightS g t && (decide ((Tp.found 7 t []).length = 0) && okStamps (Tp.found 6 t []))
/-- The target type of a scheme. -/
def Tp.schemeT (g : Int) (t : Tp) : Tgt.Tt := Tt.around 10 (numsT (topK (Tp.found 6 t [])) g.toNat) (Tp.made (topK (Tp.found 6 t [])) t)
/-- What a call that makes a target type answers, wherever its labels lie. -/
def TtAns2 (ok : Bool) (y : Tgt.Tt) (w : World) (e : Ending) (w' : World) : Prop :=
  (ok = true ∧ ∃ a' c' a c N, e = .returned (.tuple #[.agg #[.int .i64 y.k, .int .i64 y.n, .slice a' y.ls.length c', .slice a y.ks.length c], .int .i64 0]) ∧ Tgt.TAt w' (fun b => w.heap.size ≤ b) N [.int .i64 y.k, .int .i64 y.n, .slice a' y.ls.length c', .slice a y.ks.length c] y) ∨
  (ok = false ∧ e = .returned (.tuple #[.agg #[.int .i64 0, .int .i64 0, .slice none 0 0, .slice none 0 0], .int .i64 1]))
theorem TtAns.two {ok : Bool} {y : Tgt.Tt} {w : World} {e : Ending} {w' : World} (h : TtAns ok y w e w') : TtAns2 ok y w e w' := by
  rcases h with ⟨h1, a, c, N, h2, h3, h4⟩ | h
  · have hl : y.ls.length = 0 := by rw [h4]; rfl
    exact .inl ⟨h1, none, 0, a, c, N, by rw [hl]; exact h2, by rw [hl]; exact h3⟩
  · exact .inr h
/-- A list of numbers of one's own, behind two boxes. -/
structure Nst (w : World) (cs : List Value) (k : Int) (i : Nat) (v : Value) (wr : World) : Prop where
  bl : Below w.heap.size w wr
  a0 : Arr wr w.heap.size 89 cs
  a1 : Arr wr (w.heap.size + 1) 32 [.int .i64 0, .int .i64 0, .slice none 0 0, .slice none 0 0]
  own : wr.ownsRow (w.heap.size + 2) 3 1 v i ((numsT k i).map (.int .i64))
theorem Nst.app {w : World} {cs : List Value} {k : Int} {i : Nat} {v v' : Value} {wr w1 w2 : World} (h : Nst w cs k i v wr) (hb : Below wr.heap.size wr w1) (ho : w2.ownsRow (w.heap.size + 2) 3 1 v' (i + 1) ((numsT k i).map (.int .i64) ++ [.int .i64 (k + (i : Int))])) (hg : w1.grownBy w2 v.ownBlock) : Nst w cs k (i + 1) v' w2 := by
  have hrow : ∀ b, v.ownBlock = some b → w.heap.size + 2 ≤ b := fun b hb => (h.own.lt b hb).1
  have hsz := h.a1.lt
  refine ⟨(bl_tr h.bl hb).grown hg (by have := hb.size; omega) (fun b e => by have := hrow b e; omega), (h.a0.stays hb).grown hg (fun e => by have := hrow _ e.symm; omega), (h.a1.stays hb).grown hg (fun e => by have := hrow _ e.symm; omega), ?_⟩
  rw [numsT_succ, List.map_append]
  exact ho
theorem Nst.ls {w : World} {cs : List Value} {k : Int} {i : Nat} {v : Value} {wr : World} (h : Nst w cs k i v wr) : Ls wr Any v (numsT k i) := by
  rcases h.own.2 with ⟨rfl, h0⟩ | ⟨g, cap, cur, rfl, hb, hh, hle, hcm, hsz, htk⟩
  · exact .inr ⟨by rw [h0]; rfl, none, 0, rfl⟩
  · refine .inl ⟨g, 0, cap, by rw [numsT_len], trivial, by rw [numsT_len]; exact hle, by rw [numsT_len]; omega, fun j x hx => ?_⟩
    have hq : ((numsT k i).map (Value.int IntKind.i64))[j]? = some (.int .i64 x) := by rw [List.getElem?_map, hx]; rfl
    rw [← htk, List.getElem?_take] at hq
    split at hq
    · rw [cell_at hh, Nat.zero_add]
      rw [Array.getElem?_toList] at hq
      exact hq
    · cases hq

end Go.Proofs.Ytigliglmejkakab

namespace Go.Proofs.Ytigliglmejkakab
open Go.RowKit
set_option linter.unusedVariables false
set_option linter.unusedSimpArgs false

/-- A constructor: its name, and what it has. -/
structure Ct where
  nm : ByteArray
  args : List Tp
def CtAt (w : World) (K : Nat → Prop) (n : Nat) (vs : List Value) (c : Ct) : Prop := ∃ v, vs = [.string c.nm, v] ∧ TAtL w K n v c.args
def CtL (w : World) (K : Nat → Prop) (n : Nat) (v : Value) (l : List Ct) : Prop :=
  (∃ b o cp, v = .slice (some ⟨b, o, none⟩) l.length cp ∧ K b ∧ l.length ≤ cp ∧ l.length ≤ maxLen ∧ ∀ (i : Nat) c, l[i]? = some c → ∃ vs, Cells w b (o + i * 2) vs ∧ CtAt w K n vs c) ∨ (l = [] ∧ ∃ p c, v = .slice p 0 c)
theorem CtAt.below {w w' : World} {K : Nat → Prop} {n : Nat} {vs : List Value} {c : Ct} (h : CtAt w K n vs c) (hb : Below w.heap.size w w') : CtAt w' K n vs c := by
  obtain ⟨v, h1, h2⟩ := h
  exact ⟨v, h1, h2.below hb⟩
theorem CtL.below {w w' : World} {K : Nat → Prop} {n : Nat} {v : Value} {l : List Ct} (h : CtL w K n v l) (hb : Below w.heap.size w w') : CtL w' K n v l := by
  rcases h with ⟨b, o, cp, h1, h2, h3, h4, h5⟩ | h
  · exact .inl ⟨b, o, cp, h1, h2, h3, h4, fun i c hc => by obtain ⟨vs, g1, g2⟩ := h5 i c hc; exact ⟨vs, fun j u hu => (hb.cell (World.block_lt_of_cell? w _ (g1 j u hu))).trans (g1 j u hu), g2.below hb⟩⟩
  · exact .inr h
theorem CtAt.form {w : World} {K : Nat → Prop} {n : Nat} {vs : List Value} {c : Ct} (h : CtAt w K n vs c) : ∃ a cp, vs = [.string c.nm, .slice a c.args.length cp] ∧ TAtL w K n (.slice a c.args.length cp) c.args := by
  obtain ⟨v, h1, h2⟩ := h
  obtain ⟨a, cp, rfl, -⟩ := h2.form
  exact ⟨a, cp, h1, h2⟩
theorem CtL.form {w : World} {K : Nat → Prop} {n : Nat} {v : Value} {l : List Ct} (h : CtL w K n v l) : ∃ a c, v = .slice a l.length c ∧ l.length ≤ maxLen := by
  rcases h with ⟨b, o, cp, h1, -, -, h4, -⟩ | ⟨rfl, p, c, rfl⟩
  · exact ⟨_, _, h1, h4⟩
  · exact ⟨_, _, rfl, Nat.zero_le _⟩
theorem tat_two {W : World} {K : Nat → Prop} {N nb : Nat} {kind x : Int} {y z : Tgt.Tt} {vs us : List Value} (hk : Tgt.R64 kind) (hx : Tgt.R64 x) (hT : Tgt.TAt W K N vs y) (hU : Tgt.TAt W K N us z) (hl : vs.length = 4) (hnb : K nb) (hc : Tgt.Cells W nb 0 (vs ++ us)) : Tgt.TAt W K (N + 1) [.int .i64 kind, .int .i64 x, .slice none 0 0, .slice (some ⟨nb, 0, none⟩) 2 2] (.mk kind x [] [y, z]) := by
  refine ⟨_, _, rfl, hk, hx, .inr ⟨rfl, none, 0, rfl⟩, .inl ⟨nb, 0, 2, rfl, hnb, Nat.le_refl _, by unfold maxLen; simp [Tgt.Tt.ks], fun i q hq => ?_⟩⟩
  match i, hq with
  | 0, hq =>
    simp [Tgt.Tt.ks] at hq
    subst hq
    exact ⟨vs, fun j u hu => by have := hc j u (by rw [List.getElem?_append_left (List.getElem?_eq_some_iff.1 hu).1]; exact hu); simpa using this, hT⟩
  | 1, hq =>
    simp [Tgt.Tt.ks] at hq
    subst hq
    exact ⟨us, fun j u hu => by have := hc (4 + j) u (by rw [List.getElem?_append_right (by omega), hl]; simpa using hu); simpa [Nat.add_comm, Nat.add_left_comm, Nat.add_assoc] using this, hU⟩
  | i + 2, hq => simp [Tgt.Tt.ks] at hq
/-- Does a constructor have a type? -/
def okC (s : Int) (c : Ct) : Bool := decide (c.args.length ≤ 1) && (decide (0 ≤ s ∧ s ≤ 2147483647) && c.args.all Tp.okT)
def conT (s : Int) (c : Ct) : Tgt.Tt := match c.args with
  | [] => .mk 6 s [] []
  | x :: _ => .mk 4 0 [] [Tp.made 0 x, .mk 6 s [] []]

end Go.Proofs.Ytigliglmejkakab

namespace Go.Proofs.Ytigliglmejkakab
open Go.RowKit
set_option linter.unusedVariables false
set_option linter.unusedSimpArgs false

/-- What stands for a constructor in the sum. -/
def okCs (c : Ct) : Bool := decide (c.args.length ≤ 1) && c.args.all Tp.okT
def sumK (c : Ct) : Tgt.Tt := match c.args with
  | [] => .mk 3 0 [] []
  | x :: _ => Tp.made 0 x
def okSum (l : List Ct) : Bool := l.all okCs
def sumT (l : List Ct) : Tgt.Tt := .mk 8 0 [] (l.map sumK)
theorem okSum_bad {l : List Ct} {i : Nat} {c : Ct} (hc : l[i]? = some c) (h : okCs c = false) : okSum l = false := by
  unfold okSum
  rw [List.all_eq_false]
  exact ⟨c, List.mem_of_getElem? hc, by rw [h]; simp⟩
theorem okSum_take {l : List Ct} {i : Nat} {c : Ct} (hc : l[i]? = some c) (h : okCs c = true) (h2 : okSum (l.take i) = true) : okSum (l.take (i + 1)) = true := by
  unfold okSum at *
  rw [List.take_add_one, hc, List.all_append, h2]
  simp [h]
theorem sumK_take {l : List Ct} {i : Nat} {c : Ct} (hc : l[i]? = some c) : (l.take (i + 1)).map sumK = (l.take i).map sumK ++ [sumK c] := by
  rw [List.take_add_one, hc, List.map_append]
  rfl
theorem made_ls (k : Int) (x : Tp) : (Tp.made k x).ls = [] := by
  obtain ⟨kd, n, ks⟩ := x
  rw [Tp.made]
  repeat' split
  all_goals rfl
/-- All that constructors have, in nodes. -/
def Ct.cntL (l : List Ct) : Nat := (l.map fun c => Tp.cntL c.args).sum
theorem Ct.cntL_mem {l : List Ct} {i : Nat} {c : Ct} (hc : l[i]? = some c) : Tp.cntL c.args ≤ Ct.cntL l := by
  have : ∀ (l : List Ct) c, c ∈ l → Tp.cntL c.args ≤ Ct.cntL l := by
    intro l
    induction l with
    | nil => intro c h; cases h
    | cons d r ih =>
      intro c h
      unfold Ct.cntL at *
      simp only [List.map_cons, List.sum_cons]
      rcases List.mem_cons.1 h with rfl | h
      · omega
      · have := ih c h; omega
  exact this l c (List.mem_of_getElem? hc)

end Go.Proofs.Ytigliglmejkakab

namespace Go.Proofs.Ytigliglmejkakab
open Go.RowKit
set_option linter.unusedVariables false
set_option linter.unusedSimpArgs false

/-- What a call that makes one target type answers. -/
def TxAns (w : World) (y : Tgt.Tt) (e : Ending) (w' : World) : Prop := ∃ a' c' a c N, e = .returned (.agg #[.int .i64 y.k, .int .i64 y.n, .slice a' y.ls.length c', .slice a y.ks.length c]) ∧ Tgt.TAt w' (fun b => w.heap.size ≤ b) N [.int .i64 y.k, .int .i64 y.n, .slice a' y.ls.length c', .slice a y.ks.length c] y ∧ Below w.heap.size w w'

set_option maxRecDepth 100000 in
theorem leaf_any (w : World) (k : Int) : Calls Try.prog 36 #[.int .i64 k] w fun e w' => e = .returned (.agg #[.int .i64 k, .int .i64 0, .slice none 0 0, .slice none 0 0]) ∧ Below w.heap.size w w' := by
  go_enter Try.func36, Try.ntmps36
  go_wp2
  refine bodyPost_ret (v := .agg #[.int .i64 k, .int .i64 0, .slice none 0 0, .slice none 0 0]) (by rw [results_cell1 (fn := Try.f36) (p := 2) (ty := 32) (by kernel_rfl)]; simp [go_sem]) rfl ?_
  exact ⟨rfl, bl_alloc (Below.refl _ _) _⟩

set_option maxRecDepth 100000 in
theorem variable_any (w : World) (n : Int) : Calls Try.prog 37 #[.int .i64 n] w fun e w' => e = .returned (.agg #[.int .i64 6, .int .i64 n, .slice none 0 0, .slice none 0 0]) ∧ Below w.heap.size w w' := by
  go_enter Try.func37, Try.ntmps37
  go_wp2
  refine bodyPost_ret (v := .agg #[.int .i64 6, .int .i64 n, .slice none 0 0, .slice none 0 0]) (by rw [results_cell1 (fn := Try.f37) (p := 2) (ty := 32) (by kernel_rfl)]; simp [go_sem]) rfl ?_
  exact ⟨rfl, bl_alloc (Below.refl _ _) _⟩

set_option maxHeartbeats 1000000 in
set_option maxRecDepth 100000 in
theorem both_any (w : World) (K : Nat → Prop) (N : Nat) (k : Int) (x y : Tgt.Tt) (a1 a2 b1 b2 : Option Addr) (c1 c2 d1 d2 : Nat) (hk : Tgt.R64 k) (hx : Tgt.TAt w K N [.int .i64 x.k, .int .i64 x.n, .slice a1 x.ls.length c1, .slice a2 x.ks.length c2] x) (hy : Tgt.TAt w K N [.int .i64 y.k, .int .i64 y.n, .slice b1 y.ls.length d1, .slice b2 y.ks.length d2] y) (hK : ∀ b, w.heap.size ≤ b → K b) : Calls Try.prog 38 #[.int .i64 k, .agg #[.int .i64 x.k, .int .i64 x.n, .slice a1 x.ls.length c1, .slice a2 x.ks.length c2], .agg #[.int .i64 y.k, .int .i64 y.n, .slice b1 y.ls.length d1, .slice b2 y.ks.length d2]] w fun e w' => ∃ a c, e = .returned (.agg #[.int .i64 k, .int .i64 0, .slice none 0 0, .slice a 2 c]) ∧ Tgt.TAt w' K (N + 1) [.int .i64 k, .int .i64 0, .slice none 0 0, .slice a 2 c] (.mk k 0 [] [x, y]) ∧ Below w.heap.size w w' := by
  have HX := hid hx
  have HY := hid hy
  have HK := hid hK
  have HK64 := hid hk
  clear hx hy hK hk
  go_enter Try.func38, Try.ntmps38
  go_wp2
  refine bodyPost_ret (v := .agg #[.int .i64 k, .int .i64 0, .slice none 0 0, .slice (some ⟨w.heap.size + 3, 0, none⟩) 2 2]) (by rw [results_cell1 (fn := Try.f38) (p := 6) (ty := 32) (by kernel_rfl)]; simp [go_sem]) rfl ?_
  refine ⟨_, _, rfl, ?_, ?_⟩
  · have hb : Below w.heap.size w _ := bl_alloc (bl_alloc (bl_alloc (bl_alloc (Below.refl w.heap.size w) (.cells #[.int .i64 x.k, .int .i64 x.n, .slice a1 x.ls.length c1, .slice a2 x.ks.length c2] 32)) (.cells #[.int .i64 y.k, .int .i64 y.n, .slice b1 y.ls.length d1, .slice b2 y.ks.length d2] 32)) (.cells #[.int .i64 k, .int .i64 0, .slice none 0 0, .slice (some ⟨w.heap.size + 1 + 1 + 1, 0, none⟩) 2 2] 32)) (.cells #[.int .i64 x.k, .int .i64 x.n, .slice a1 x.ls.length c1, .slice a2 x.ks.length c2, .int .i64 y.k, .int .i64 y.n, .slice b1 y.ls.length d1, .slice b2 y.ks.length d2] 32)
    have hh := heap_alloc_at (((w.alloc (.cells #[.int .i64 x.k, .int .i64 x.n, .slice a1 x.ls.length c1, .slice a2 x.ks.length c2] 32)).alloc (.cells #[.int .i64 y.k, .int .i64 y.n, .slice b1 y.ls.length d1, .slice b2 y.ks.length d2] 32)).alloc (.cells #[.int .i64 k, .int .i64 0, .slice none 0 0, .slice (some ⟨w.heap.size + 1 + 1 + 1, 0, none⟩) 2 2] 32)) (.cells #[.int .i64 x.k, .int .i64 x.n, .slice a1 x.ls.length c1, .slice a2 x.ks.length c2, .int .i64 y.k, .int .i64 y.n, .slice b1 y.ls.length d1, .slice b2 y.ks.length d2] 32)
    rw [size_alloc, size_alloc, size_alloc] at hh
    exact tat_two HK64.out (⟨by omega, by omega⟩ : Tgt.R64 0) (HX.out.below hb) (HY.out.below hb) rfl (HK.out _ (by omega)) (fun j u hu => by rw [Nat.zero_add, cell_at hh]; simpa using hu)
  · exact bl_alloc (bl_alloc (bl_alloc (bl_alloc (Below.refl _ _) _) _) _) _

set_option maxHeartbeats 1000000 in
set_option maxRecDepth 100000 in
theorem binder_any (w : World) (K : Nat → Prop) (N : Nat) (k n : Int) (x : Tgt.Tt) (a1 a2 : Option Addr) (c1 c2 : Nat) (hk : Tgt.R64 k) (hn : Tgt.R64 n) (hx : Tgt.TAt w K N [.int .i64 x.k, .int .i64 x.n, .slice a1 x.ls.length c1, .slice a2 x.ks.length c2] x) (hK : ∀ b, w.heap.size ≤ b → K b) : Calls Try.prog 19 #[.int .i64 k, .int .i64 n, .agg #[.int .i64 x.k, .int .i64 x.n, .slice a1 x.ls.length c1, .slice a2 x.ks.length c2]] w fun e w' => ∃ a c, e = .returned (.agg #[.int .i64 k, .int .i64 n, .slice none 0 0, .slice a 1 c]) ∧ Tgt.TAt w' K (N + 1) [.int .i64 k, .int .i64 n, .slice none 0 0, .slice a 1 c] (.mk k n [] [x]) ∧ Below w.heap.size w w' := by
  have HX := hid hx
  have HK := hid hK
  have HK64 := hid hk
  have HN64 := hid hn
  clear hx hK hk hn
  go_enter Try.func19, Try.ntmps19
  go_wp2
  refine bodyPost_ret (v := .agg #[.int .i64 k, .int .i64 n, .slice none 0 0, .slice (some ⟨w.heap.size + 2, 0, none⟩) 1 1]) (by rw [results_cell1 (fn := Try.f19) (p := 6) (ty := 32) (by kernel_rfl)]; simp [go_sem]) rfl ?_
  refine ⟨_, _, rfl, ?_, ?_⟩
  · have hb : Below w.heap.size w _ := bl_alloc (bl_alloc (bl_alloc (Below.refl w.heap.size w) (.cells #[.int .i64 x.k, .int .i64 x.n, .slice a1 x.ls.length c1, .slice a2 x.ks.length c2] 32)) (.cells #[.int .i64 k, .int .i64 n, .slice none 0 0, .slice (some ⟨w.heap.size + 1 + 1, 0, none⟩) 1 1] 32)) (.cells #[.int .i64 x.k, .int .i64 x.n, .slice a1 x.ls.length c1, .slice a2 x.ks.length c2] 32)
    have hh := heap_alloc_at ((w.alloc (.cells #[.int .i64 x.k, .int .i64 x.n, .slice a1 x.ls.length c1, .slice a2 x.ks.length c2] 32)).alloc (.cells #[.int .i64 k, .int .i64 n, .slice none 0 0, .slice (some ⟨w.heap.size + 1 + 1, 0, none⟩) 1 1] 32)) (.cells #[.int .i64 x.k, .int .i64 x.n, .slice a1 x.ls.length c1, .slice a2 x.ks.length c2] 32)
    rw [size_alloc, size_alloc] at hh
    exact tat_wrap HK64.out HN64.out (HX.out.below hb) (HK.out _ (by omega)) (fun j u hu => by rw [Nat.zero_add, cell_at hh]; simpa using hu)
  · exact bl_alloc (bl_alloc (bl_alloc (Below.refl _ _) _) _) _
end Go.Proofs.Ytigliglmejkakab
