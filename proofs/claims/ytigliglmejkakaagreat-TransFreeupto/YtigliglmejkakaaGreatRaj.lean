/- Constructors in memory; the document's Con. The document's Sum. The program's makers of target types: leaf, variable, both, binder. -/
import Derived.Test.YtigliglmejkakaaGreatRai
namespace Go.Proofs.YtigliglmejkakaaGreat
open Go.RowKit
set_option linter.unusedVariables false
set_option linter.unusedSimpArgs false

/-- A constructor: its name, and what it has. -/
structure Ct where
  nm : ByteArray
  args : List Tp
def CtAt (w : World) (K : Nat → Prop) (n : Nat) (vs : List Value) (c : Ct) : Prop := ∃ v, vs = [.string c.nm, v] ∧ TAtL w K n v c.args
def CtL (w : World) (K : Nat → Prop) (n : Nat) (v : Value) (l : List Ct) : Prop :=
  (∃ b o cp, v = .slice (some ⟨b, o, none⟩) l.length cp ∧ K b ∧ l.length ≤ cp ∧ l.length ≤ maxLen ∧ ∀ (i : Nat) c, l[i]? = some c → ∃ vs, Cells w b (o + i * 2) vs ∧ CtAt w K n vs c) ∨ (l = [] ∧ ∃ p c, v = .slice p 0 c)
theorem CtAt.below {w w' : World} {K : Nat → Prop} {n : Nat} {vs : List Value} {c : Ct} (h : CtAt w K n vs c) (hb : Below w.heap.size w w') : CtAt w' K n vs c := by
  obtain ⟨v, h1, h2⟩ := h
  exact ⟨v, h1, h2.below hb⟩
theorem CtL.below {w w' : World} {K : Nat → Prop} {n : Nat} {v : Value} {l : List Ct} (h : CtL w K n v l) (hb : Below w.heap.size w w') : CtL w' K n v l := by
  rcases h with ⟨b, o, cp, h1, h2, h3, h4, h5⟩ | h
  · exact .inl ⟨b, o, cp, h1, h2, h3, h4, fun i c hc => by obtain ⟨vs, g1, g2⟩ := h5 i c hc; exact ⟨vs, fun j u hu => (hb.cell (World.block_lt_of_cell? w _ (g1 j u hu))).trans (g1 j u hu), g2.below hb⟩⟩
  · exact .inr h
theorem CtAt.form {w : World} {K : Nat → Prop} {n : Nat} {vs : List Value} {c : Ct} (h : CtAt w K n vs c) : ∃ a cp, vs = [.string c.nm, .slice a c.args.length cp] ∧ TAtL w K n (.slice a c.args.length cp) c.args := by
  obtain ⟨v, h1, h2⟩ := h
  obtain ⟨a, cp, rfl, -⟩ := h2.form
  exact ⟨a, cp, h1, h2⟩
theorem CtL.form {w : World} {K : Nat → Prop} {n : Nat} {v : Value} {l : List Ct} (h : CtL w K n v l) : ∃ a c, v = .slice a l.length c ∧ l.length ≤ maxLen := by
  rcases h with ⟨b, o, cp, h1, -, -, h4, -⟩ | ⟨rfl, p, c, rfl⟩
  · exact ⟨_, _, h1, h4⟩
  · exact ⟨_, _, rfl, Nat.zero_le _⟩
theorem tat_two {W : World} {K : Nat → Prop} {N nb : Nat} {kind x : Int} {y z : Tgt.Tt} {vs us : List Value} (hk : Tgt.R64 kind) (hx : Tgt.R64 x) (hT : Tgt.TAt W K N vs y) (hU : Tgt.TAt W K N us z) (hl : vs.length = 4) (hnb : K nb) (hc : Tgt.Cells W nb 0 (vs ++ us)) : Tgt.TAt W K (N + 1) [.int .i64 kind, .int .i64 x, .slice none 0 0, .slice (some ⟨nb, 0, none⟩) 2 2] (.mk kind x [] [y, z]) := by
  refine ⟨_, _, rfl, hk, hx, .inr ⟨rfl, none, 0, rfl⟩, .inl ⟨nb, 0, 2, rfl, hnb, Nat.le_refl _, by unfold maxLen; simp [Tgt.Tt.ks], fun i q hq => ?_⟩⟩
  match i, hq with
  | 0, hq =>
    simp [Tgt.Tt.ks] at hq
    subst hq
    exact ⟨vs, fun j u hu => by have := hc j u (by rw [List.getElem?_append_left (List.getElem?_eq_some_iff.1 hu).1]; exact hu); simpa using this, hT⟩
  | 1, hq =>
    simp [Tgt.Tt.ks] at hq
    subst hq
    exact ⟨us, fun j u hu => by have := hc (4 + j) u (by rw [List.getElem?_append_right (by omega), hl]; simpa using hu); simpa [Nat.add_comm, Nat.add_left_comm, Nat.add_assoc] using this, hU⟩
  | i + 2, hq => simp [Tgt.Tt.ks] at hq
/-- Does a constructor have a type? -/
def okC (s : Int) (c : Ct) : Bool := decide (c.args.length ≤ 1) && (decide (0 ≤ s ∧ s ≤ 2147483647) && c.args.all Tp.okT)
def conT (s : Int) (c : Ct) : Tgt.Tt := match c.args with
  | [] => .mk 6 s [] []
  | x :: _ => .mk 4 0 [] [Tp.made 0 x, .mk 6 s [] []]

end Go.Proofs.YtigliglmejkakaaGreat

namespace Go.Proofs.YtigliglmejkakaaGreat
open Go.RowKit
set_option linter.unusedVariables false
set_option linter.unusedSimpArgs false

/-- What stands for a constructor in the sum. -/
def okCs (c : Ct) : Bool := decide (c.args.length ≤ 1) && c.args.all Tp.okT
def sumK (c : Ct) : Tgt.Tt := match c.args with
  | [] => .mk 3 0 [] []
  | x :: _ => Tp.made 0 x
def okSum (l : List Ct) : Bool := l.all okCs
def sumT (l : List Ct) : Tgt.Tt := .mk 8 0 [] (l.map sumK)
theorem okSum_bad {l : List Ct} {i : Nat} {c : Ct} (hc : l[i]? = some c) (h : okCs c = false) : okSum l = false := by
  unfold okSum
  rw [List.all_eq_false]
  exact ⟨c, List.mem_of_getElem? hc, by rw [h]; simp⟩
theorem okSum_take {l : List Ct} {i : Nat} {c : Ct} (hc : l[i]? = some c) (h : okCs c = true) (h2 : okSum (l.take i) = true) : okSum (l.take (i + 1)) = true := by
  unfold okSum at *
  rw [List.take_add_one, hc, List.all_append, h2]
  simp [h]
theorem sumK_take {l : List Ct} {i : Nat} {c : Ct} (hc : l[i]? = some c) : (l.take (i + 1)).map sumK = (l.take i).map sumK ++ [sumK c] := by
  rw [List.take_add_one, hc, List.map_append]
  rfl
theorem made_ls (k : Int) (x : Tp) : (Tp.made k x).ls = [] := by
  obtain ⟨kd, n, ks⟩ := x
  rw [Tp.made]
  repeat' split
  all_goals rfl
/-- All that constructors have, in nodes. -/
def Ct.cntL (l : List Ct) : Nat := (l.map fun c => Tp.cntL c.args).sum
theorem Ct.cntL_mem {l : List Ct} {i : Nat} {c : Ct} (hc : l[i]? = some c) : Tp.cntL c.args ≤ Ct.cntL l := by
  have : ∀ (l : List Ct) c, c ∈ l → Tp.cntL c.args ≤ Ct.cntL l := by
    intro l
    induction l with
    | nil => intro c h; cases h
    | cons d r ih =>
      intro c h
      unfold Ct.cntL at *
      simp only [List.map_cons, List.sum_cons]
      rcases List.mem_cons.1 h with rfl | h
      · omega
      · have := ih c h; omega
  exact this l c (List.mem_of_getElem? hc)

end Go.Proofs.YtigliglmejkakaaGreat

namespace Go.Proofs.YtigliglmejkakaaGreat
open Go.RowKit
set_option linter.unusedVariables false
set_option linter.unusedSimpArgs false

/-- What a call that makes one target type answers. -/
def TxAns (w : World) (y : Tgt.Tt) (e : Ending) (w' : World) : Prop := ∃ a' c' a c N, e = .returned (.agg #[.int .i64 y.k, .int .i64 y.n, .slice a' y.ls.length c', .slice a y.ks.length c]) ∧ Tgt.TAt w' (fun b => w.heap.size ≤ b) N [.int .i64 y.k, .int .i64 y.n, .slice a' y.ls.length c', .slice a y.ks.length c] y ∧ Below w.heap.size w w'

set_option maxRecDepth 100000 in
theorem leaf_any (w : World) (k : Int) : Calls Tryz.prog 47 #[.int .i64 k] w fun e w' => e = .returned (.agg #[.int .i64 k, .int .i64 0, .slice none 0 0, .slice none 0 0]) ∧ Below w.heap.size w w' := by
  go_enter Tryz.func47, Tryz.ntmps47
  go_wp2
  refine bodyPost_ret (v := .agg #[.int .i64 k, .int .i64 0, .slice none 0 0, .slice none 0 0]) (by rw [results_cell1 (fn := Tryz.f47) (p := 2) (ty := 28) (by kernel_rfl)]; simp [go_sem]) rfl ?_
  exact ⟨rfl, bl_alloc (Below.refl _ _) _⟩

set_option maxRecDepth 100000 in
theorem variable_any (w : World) (n : Int) : Calls Tryz.prog 48 #[.int .i64 n] w fun e w' => e = .returned (.agg #[.int .i64 6, .int .i64 n, .slice none 0 0, .slice none 0 0]) ∧ Below w.heap.size w w' := by
  go_enter Tryz.func48, Tryz.ntmps48
  go_wp2
  refine bodyPost_ret (v := .agg #[.int .i64 6, .int .i64 n, .slice none 0 0, .slice none 0 0]) (by rw [results_cell1 (fn := Tryz.f48) (p := 2) (ty := 28) (by kernel_rfl)]; simp [go_sem]) rfl ?_
  exact ⟨rfl, bl_alloc (Below.refl _ _) _⟩

set_option maxHeartbeats 1000000 in
set_option maxRecDepth 100000 in
theorem both_any (w : World) (K : Nat → Prop) (N : Nat) (k : Int) (x y : Tgt.Tt) (a1 a2 b1 b2 : Option Addr) (c1 c2 d1 d2 : Nat) (hk : Tgt.R64 k) (hx : Tgt.TAt w K N [.int .i64 x.k, .int .i64 x.n, .slice a1 x.ls.length c1, .slice a2 x.ks.length c2] x) (hy : Tgt.TAt w K N [.int .i64 y.k, .int .i64 y.n, .slice b1 y.ls.length d1, .slice b2 y.ks.length d2] y) (hK : ∀ b, w.heap.size ≤ b → K b) : Calls Tryz.prog 49 #[.int .i64 k, .agg #[.int .i64 x.k, .int .i64 x.n, .slice a1 x.ls.length c1, .slice a2 x.ks.length c2], .agg #[.int .i64 y.k, .int .i64 y.n, .slice b1 y.ls.length d1, .slice b2 y.ks.length d2]] w fun e w' => ∃ a c, e = .returned (.agg #[.int .i64 k, .int .i64 0, .slice none 0 0, .slice a 2 c]) ∧ Tgt.TAt w' K (N + 1) [.int .i64 k, .int .i64 0, .slice none 0 0, .slice a 2 c] (.mk k 0 [] [x, y]) ∧ Below w.heap.size w w' := by
  have HX := hid hx
  have HY := hid hy
  have HK := hid hK
  have HK64 := hid hk
  clear hx hy hK hk
  go_enter Tryz.func49, Tryz.ntmps49
  go_wp2
  refine bodyPost_ret (v := .agg #[.int .i64 k, .int .i64 0, .slice none 0 0, .slice (some ⟨w.heap.size + 3, 0, none⟩) 2 2]) (by rw [results_cell1 (fn := Tryz.f49) (p := 6) (ty := 28) (by kernel_rfl)]; simp [go_sem]) rfl ?_
  refine ⟨_, _, rfl, ?_, ?_⟩
  · have hb : Below w.heap.size w _ := bl_alloc (bl_alloc (bl_alloc (bl_alloc (Below.refl w.heap.size w) (.cells #[.int .i64 x.k, .int .i64 x.n, .slice a1 x.ls.length c1, .slice a2 x.ks.length c2] 28)) (.cells #[.int .i64 y.k, .int .i64 y.n, .slice b1 y.ls.length d1, .slice b2 y.ks.length d2] 28)) (.cells #[.int .i64 k, .int .i64 0, .slice none 0 0, .slice (some ⟨w.heap.size + 1 + 1 + 1, 0, none⟩) 2 2] 28)) (.cells #[.int .i64 x.k, .int .i64 x.n, .slice a1 x.ls.length c1, .slice a2 x.ks.length c2, .int .i64 y.k, .int .i64 y.n, .slice b1 y.ls.length d1, .slice b2 y.ks.length d2] 28)
    have hh := heap_alloc_at (((w.alloc (.cells #[.int .i64 x.k, .int .i64 x.n, .slice a1 x.ls.length c1, .slice a2 x.ks.length c2] 28)).alloc (.cells #[.int .i64 y.k, .int .i64 y.n, .slice b1 y.ls.length d1, .slice b2 y.ks.length d2] 28)).alloc (.cells #[.int .i64 k, .int .i64 0, .slice none 0 0, .slice (some ⟨w.heap.size + 1 + 1 + 1, 0, none⟩) 2 2] 28)) (.cells #[.int .i64 x.k, .int .i64 x.n, .slice a1 x.ls.length c1, .slice a2 x.ks.length c2, .int .i64 y.k, .int .i64 y.n, .slice b1 y.ls.length d1, .slice b2 y.ks.length d2] 28)
    rw [size_alloc, size_alloc, size_alloc] at hh
    exact tat_two HK64.out (⟨by omega, by omega⟩ : Tgt.R64 0) (HX.out.below hb) (HY.out.below hb) rfl (HK.out _ (by omega)) (fun j u hu => by rw [Nat.zero_add, cell_at hh]; simpa using hu)
  · exact bl_alloc (bl_alloc (bl_alloc (bl_alloc (Below.refl _ _) _) _) _) _

set_option maxHeartbeats 1000000 in
set_option maxRecDepth 100000 in
theorem binder_any (w : World) (K : Nat → Prop) (N : Nat) (k n : Int) (x : Tgt.Tt) (a1 a2 : Option Addr) (c1 c2 : Nat) (hk : Tgt.R64 k) (hn : Tgt.R64 n) (hx : Tgt.TAt w K N [.int .i64 x.k, .int .i64 x.n, .slice a1 x.ls.length c1, .slice a2 x.ks.length c2] x) (hK : ∀ b, w.heap.size ≤ b → K b) : Calls Tryz.prog 41 #[.int .i64 k, .int .i64 n, .agg #[.int .i64 x.k, .int .i64 x.n, .slice a1 x.ls.length c1, .slice a2 x.ks.length c2]] w fun e w' => ∃ a c, e = .returned (.agg #[.int .i64 k, .int .i64 n, .slice none 0 0, .slice a 1 c]) ∧ Tgt.TAt w' K (N + 1) [.int .i64 k, .int .i64 n, .slice none 0 0, .slice a 1 c] (.mk k n [] [x]) ∧ Below w.heap.size w w' := by
  have HX := hid hx
  have HK := hid hK
  have HK64 := hid hk
  have HN64 := hid hn
  clear hx hK hk hn
  go_enter Tryz.func41, Tryz.ntmps41
  go_wp2
  refine bodyPost_ret (v := .agg #[.int .i64 k, .int .i64 n, .slice none 0 0, .slice (some ⟨w.heap.size + 2, 0, none⟩) 1 1]) (by rw [results_cell1 (fn := Tryz.f41) (p := 6) (ty := 28) (by kernel_rfl)]; simp [go_sem]) rfl ?_
  refine ⟨_, _, rfl, ?_, ?_⟩
  · have hb : Below w.heap.size w _ := bl_alloc (bl_alloc (bl_alloc (Below.refl w.heap.size w) (.cells #[.int .i64 x.k, .int .i64 x.n, .slice a1 x.ls.length c1, .slice a2 x.ks.length c2] 28)) (.cells #[.int .i64 k, .int .i64 n, .slice none 0 0, .slice (some ⟨w.heap.size + 1 + 1, 0, none⟩) 1 1] 28)) (.cells #[.int .i64 x.k, .int .i64 x.n, .slice a1 x.ls.length c1, .slice a2 x.ks.length c2] 28)
    have hh := heap_alloc_at ((w.alloc (.cells #[.int .i64 x.k, .int .i64 x.n, .slice a1 x.ls.length c1, .slice a2 x.ks.length c2] 28)).alloc (.cells #[.int .i64 k, .int .i64 n, .slice none 0 0, .slice (some ⟨w.heap.size + 1 + 1, 0, none⟩) 1 1] 28)) (.cells #[.int .i64 x.k, .int .i64 x.n, .slice a1 x.ls.length c1, .slice a2 x.ks.length c2] 28)
    rw [size_alloc, size_alloc] at hh
    exact tat_wrap HK64.out HN64.out (HX.out.below hb) (HK.out _ (by omega)) (fun j u hu => by rw [Nat.zero_add, cell_at hh]; simpa using hu)
  · exact bl_alloc (bl_alloc (bl_alloc (Below.refl _ _) _) _) _
end Go.Proofs.YtigliglmejkakaaGreat
