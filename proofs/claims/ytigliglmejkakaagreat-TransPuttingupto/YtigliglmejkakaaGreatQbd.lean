/- Rows of types that are written anew; what putting into a list comes to. What the putter finds, binds; stands, renumbered. Copying a set into another one. DERIVED: THE SHELF's CONTRACTS AT THIS DUMP, IN PLAIN WORDS (tools/lay-plain.mjs out of 'TryzCutShelfKeys.lean', which tools/lay-shelf.mjs wrote): THE SAME DECLARATIONS UNDER THE SAME NAMES: 'import', 'namespace', 'open', 'def', 'theorem' AND NOTHING ELSE: no command of the shelf's: FOR A HAND-IN. Each laying: the table of numbers ('.._ren') and one theorem, a field a fact of the dump's own or the kernel's comparison; each contract: ONE APPLICATION. -/
import Derived.Maps.Ext
import Derived.Maps.RangeWalk
import Derived.Laws.IdiomRangeMap
import Derived.Lib.SlKeysI
import Derived.Shelf.SlIterI.Nil
import Derived.Shelf.SortM.Plain
import Derived.Shelf.SortM.SortNone
import Derived.Ground.GgzProg
import Derived.Ground.SlgmProg
import Derived.Test.YtigliglmejkakaaGreatProg
import Derived.Test.YtigliglmejkakaaGreatQaw
import Derived.Test.YtigliglmejkakaaGreatQav
namespace Go.Proofs.YtigliglmejkakaaGreat.Tgt
open Go.RowKit
set_option linter.unusedVariables false
set_option linter.unusedSimpArgs false

theorem Tt.putL_at (num : Int) (u : Tt) (C : Int → Bool) (l : List Int) {L : List Tt} {i : Nat} {x : Tt} (hx : L[i]? = some x) (e : List (Int × Int)) (nx : Int) : Tt.putL num u C l (L.drop i) e nx = ((Tt.put num u C l x e nx).1 :: (Tt.putL num u C l (L.drop (i + 1)) e (Tt.put num u C l x e nx).2.2).1, (Tt.put num u C l x e nx).2.1 || (Tt.putL num u C l (L.drop (i + 1)) e (Tt.put num u C l x e nx).2.2).2.1, (Tt.putL num u C l (L.drop (i + 1)) e (Tt.put num u C l x e nx).2.2).2.2) := by
  rw [Tt.drop_at hx, Tt.putL]
theorem sl_form {w : World} {K : Nat → Prop} {k : Nat} {v0 v1 v2 v3 : Value} {t : Tt} (h : TAt w K k [v0, v1, v2, v3] t) : ∃ x y a' c' m' a c m, v0 = .int .i64 x ∧ v1 = .int .i64 y ∧ v2 = .slice a' m' c' ∧ v3 = .slice a m c := by
  obtain ⟨a', c', a, c, e⟩ := h.form
  injection e with e0 e
  injection e with e1 e
  injection e with e2 e
  injection e with e3 e
  exact ⟨_, _, _, _, _, _, _, _, e0, e1, e2, e3⟩
theorem Rw.cells {N : Nat → Prop} {n0 : Nat} {w : World} {own : Nat → Prop} {g cap k : Nat} {L : List Tt} (h : Rw N n0 w own g cap k L) {i : Nat} {x : Tt} (hx : L[i]? = some x) : ∃ u0 u1 u2 u3, w.cell? ⟨g, i * 4, none⟩ = some u0 ∧ w.cell? ⟨g, i * 4 + 1, none⟩ = some u1 ∧ w.cell? ⟨g, i * 4 + 2, none⟩ = some u2 ∧ w.cell? ⟨g, i * 4 + 3, none⟩ = some u3 ∧ ∀ j, w.frozen? ⟨g, j, none⟩ = false := by
  obtain ⟨cur, h1, h2, h3⟩ := h.ex
  obtain ⟨vs, s1, s2⟩ := h3 i x hx
  obtain ⟨a', c', a, c, rfl⟩ := s2.form
  exact ⟨_, _, _, _, (h1.cell _).trans (s1 0 _ rfl), (h1.cell _).trans (s1 1 _ rfl), (h1.cell _).trans (s1 2 _ rfl), (h1.cell _).trans (s1 3 _ rfl), h1.frozen⟩
/-- Four cells are written. -/
theorem Ev.put4 {own o1 : Nat → Prop} {w w1 : World} (h : Ev own w o1 w1) {g i : Nat} (hg : w.heap.size ≤ g) (v0 v1 v2 v3 : Value) : Ev own w o1 ((((w1.setCell ⟨g, i * 4, none⟩ v0).setCell ⟨g, i * 4 + 1, none⟩ v1).setCell ⟨g, i * 4 + 2, none⟩ v2).setCell ⟨g, i * 4 + 3, none⟩ v3) := Ev.new (Ev.new (Ev.new (Ev.new h (p := ⟨g, i * 4, none⟩) hg _) (p := ⟨g, i * 4 + 1, none⟩) hg _) (p := ⟨g, i * 4 + 2, none⟩) hg _) (p := ⟨g, i * 4 + 3, none⟩) hg _
theorem Pt.put4 {N M : Nat} {num : Int} {u : Tt} {C : Int → Bool} {l : List Int} {w : World} {own : Nat → Prop} {e : List (Int × Int)} {nx : Int} {n : Nat} (h : Pt N M num u C l w own e nx n) {g i : Nat} (hg : ¬ own g) (hM : M ≤ g) (v0 v1 v2 v3 : Value) : Pt N M num u C l ((((w.setCell ⟨g, i * 4, none⟩ v0).setCell ⟨g, i * 4 + 1, none⟩ v1).setCell ⟨g, i * 4 + 2, none⟩ v2).setCell ⟨g, i * 4 + 3, none⟩ v3) own e nx n := (((h.other (p := ⟨g, i * 4, none⟩) hg hM _).other (p := ⟨g, i * 4 + 1, none⟩) hg hM _).other (p := ⟨g, i * 4 + 2, none⟩) hg hM _).other (p := ⟨g, i * 4 + 3, none⟩) hg hM _
theorem set_mid {L done : List Tt} {i : Nat} {x : Tt} (hd : done = L.take i) (hi : i < L.length) : L.set i x = (done ++ [x]) ++ L.drop (i + 1) := by
  rw [hd, List.set_eq_take_append_cons_drop, if_pos hi, List.append_assoc]; rfl
theorem set_mid2 {L done : List Tt} {i : Nat} {y x : Tt} (hd : done.length = i) : (done ++ y :: L.drop (i + 1)).set i x = (done ++ [x]) ++ L.drop (i + 1) := by
  subst hd
  rw [List.set_append_right _ _ (Nat.le_refl _), Nat.sub_self, List.append_assoc]; rfl
/-- The number and the parts of one of them are written anew. -/
theorem Rw.put2 {M : Nat → Prop} {n0 : Nat} {w : World} {own : Nat → Prop} {g cap k : Nat} {L : List Tt} (h : Rw M n0 w own g cap k L) {i : Nat} {x : Tt} (hx : L[i]? = some x) {n' : Int} (hn : R64 n') {kv : Value} {ks : List Tt} {k' : Nat} (hk : TAtL w (fun b => Kr M n0 own w b ∧ b ≠ g) k' kv ks) : Rw M n0 ((w.setCell ⟨g, i * 4 + 1, none⟩ (.int .i64 n')).setCell ⟨g, i * 4 + 3, none⟩ kv) own g cap (max k k' + 1) (L.set i (.mk x.k n' x.ls ks)) := by
  have hi := (List.getElem?_eq_some_iff.1 hx).1
  obtain ⟨⟨cur, h1, h2, h3⟩, no, ge, le, mx⟩ := h
  have hkp : ∀ {u : World} {p : Addr} {v : Value}, p.block = g → Keeps (fun b => Kr M n0 own w b ∧ b ≠ g) u (u.setCell p v) := fun {u p v} hp => Keeps.set (fun hb => hb.2 hp) v
  have K2 : Keeps (fun b => Kr M n0 own w b ∧ b ≠ g) w ((w.setCell ⟨g, i * 4 + 1, none⟩ (.int .i64 n')).setCell ⟨g, i * 4 + 3, none⟩ kv) := (hkp rfl).trans (hkp rfl)
  have hK : ∀ b, (Kr M n0 own w b ∧ b ≠ g) → (Kr M n0 own ((w.setCell ⟨g, i * 4 + 1, none⟩ (.int .i64 n')).setCell ⟨g, i * 4 + 3, none⟩ kv) b ∧ b ≠ g) := fun b hb => ⟨⟨hb.1.1, by simp only [World.setCell, Array.size_modify]; exact hb.1.2.1, hb.1.2.2⟩, hb.2⟩
  refine ⟨⟨(cur.set (i * 4 + 1) (.int .i64 n')).set (i * 4 + 3) kv, (h1.set _ _).set _ _, by simp only [List.length_set]; exact h2, fun j y hy => ?_⟩, no, ge, by rw [List.length_set]; exact le, by rw [List.length_set]; exact mx⟩
  by_cases hj : i = j
  · subst hj
    rw [List.getElem?_set_self hi] at hy
    injection hy with hy
    subst hy
    obtain ⟨vs, s1, s2⟩ := h3 i x hx
    cases k with
    | zero => exact s2.elim
    | succ m =>
      obtain ⟨u, v, rfl, q1, q2, q3, q4⟩ := s2
      have hl : i * 4 + 3 < cur.length := by omega
      refine ⟨[.int .i64 x.k, .int .i64 n', u, kv], fun m v hm => ?_, ⟨u, kv, rfl, q1, hn, q3.move K2 hK, (TAtL.le (hk.move K2 hK) (by omega))⟩⟩
      have z0 := s1 0 _ rfl
      have z2 := s1 2 _ rfl
      match m, hm with
      | 0, hm => injection hm with hm; subst hm; rw [List.getElem?_set_ne (by omega), List.getElem?_set_ne (by omega)]; exact z0
      | 1, hm => injection hm with hm; subst hm; rw [List.getElem?_set_ne (by omega), List.getElem?_set_self (by omega)]
      | 2, hm => injection hm with hm; subst hm; rw [List.getElem?_set_ne (by omega), List.getElem?_set_ne (by omega)]; exact z2
      | 3, hm => injection hm with hm; subst hm; rw [List.getElem?_set_self (by simp; omega)]
      | m + 4, hm => simp at hm
  · rw [List.getElem?_set_ne hj] at hy
    obtain ⟨vs, s1, s2⟩ := h3 j y hy
    have := s2.len
    exact ⟨vs, (s1.set_ne (by omega) _).set_ne (by omega) _, (s2.move K2 hK).le (by omega)⟩
/-- What putting into a list comes to. -/
def Pokl (I : Nat → Prop) (N M : Nat) (num : Int) (u : Tt) (C : Int → Bool) (l : List Int) (P : List Tt × Bool × Int) (w : World) (own : Nat → Prop) (e : List (Int × Int)) (nx : Int) (n c : Nat) (r : Ending) (w' : World) : Prop :=
  ∃ a' c' k' own', r = .returned (.tuple #[.slice a' P.1.length c', .bool P.2.1]) ∧ TAtL w' (Kr I w.heap.size own' w') k' (.slice a' P.1.length c') P.1 ∧ Pt N M num u C l w' own' e P.2.2 (n + c * 8388608) ∧ Ev own w own' w' ∧ P.2.2 + from_ l P.2.2 ≤ nx + from_ l nx + c
def PutOf (I : Nat → Prop) (N M : Nat) (num : Int) (u : Tt) (C : Int → Bool) (l : List Int) (k : Nat) : Prop := ∀ (w : World) (own : Nat → Prop) (e : List (Int × Int)) (nx : Int) (n : Nat) (a : Option Addr) (c : Nat) (L : List Tt), Pt N M num u C l w own e nx n → (∀ b, I b → b < w.heap.size ∧ ¬ own b) → TAtL w I k (.slice a L.length c) L → e.length + Tt.deepestL L ≤ 2097152 → n + Tt.cntL L * 8388608 ≤ 2305843009213693952 → nx + from_ l nx + Tt.cntL L ≤ 4611686018427387904 →
  Calls Tryz.prog 35 #[.pointer (some ⟨M, 0, none⟩), .slice a L.length c] w (Pokl I N M num u C l (Tt.putL num u C l L e nx) w own e nx n (Tt.cntL L))
end Go.Proofs.YtigliglmejkakaaGreat.Tgt

namespace Go.Proofs.YtigliglmejkakaaGreat.Tgt
open Go.RowKit
set_option linter.unusedVariables false
set_option linter.unusedSimpArgs false

theorem Tt.len_le (L : List Tt) : L.length ≤ Tt.cntL L := by
  induction L with
  | nil => exact Nat.zero_le _
  | cons x r ih => rw [Tt.cntL, List.length_cons]; have := x.cnt_pos; omega
theorem Pt.good {N M : Nat} {num : Int} {u : Tt} {C : Int → Bool} {l : List Int} {w : World} {own : Nat → Prop} {e : List (Int × Int)} {nx : Int} {n : Nat} (h : Pt N M num u C l w own e nx n) : ∀ p ∈ e, R64 p.1 ∧ R64 p.2 := by
  obtain ⟨vs, mv, lv, h1, -⟩ := h.walk
  exact h1.scp.good
theorem findP (N M : Nat) (num : Int) (u : Tt) (C : Int → Bool) (l : List Int) (w : World) (own : Nat → Prop) (e : List (Int × Int)) (nx : Int) (n : Nat) (x : Int) (hx : R64 x) (h : Pt N M num u C l w own e nx n) : Calls Tryz.prog 98 #[.pointer (some ⟨M, 2, none⟩), .int .i64 x] w fun r w' => r = .returned (.tuple #[.int .i64 ((lk e x).getD 0), .bool (lk e x).isSome]) ∧ w' = w := by
  obtain ⟨vs, mv, lv, h1, -⟩ := h.walk
  exact find_any w M (0 + 2) (M + 1) PT vs mv lv e n x hx h1.arr h1.m h1.scp
theorem depthP (N M : Nat) (num : Int) (u : Tt) (C : Int → Bool) (l : List Int) (w : World) (own : Nat → Prop) (e : List (Int × Int)) (nx : Int) (n : Nat) (h : Pt N M num u C l w own e nx n) : Calls Tryz.prog 72 #[.pointer (some ⟨M, 2, none⟩)] w fun r w' => r = .returned (.int .i64 e.length) ∧ w' = w := by
  obtain ⟨vs, mv, lv, h1, -⟩ := h.walk
  obtain ⟨la, lc, rfl⟩ := h1.scp.form
  exact depth_any w M (0 + 2) PT vs la _ lc h1.arr h1.l
theorem bindP (N M : Nat) (num : Int) (u : Tt) (C : Int → Bool) (l : List Int) (w : World) (own : Nat → Prop) (e : List (Int × Int)) (nx : Int) (n : Nat) (x y : Int) (hx : R64 x) (hy : R64 y) (h : Pt N M num u C l w own e nx n) (hn : n < 4611686018427387904) (he : e.length < 1099511627776) : Calls Tryz.prog 100 #[.pointer (some ⟨M, 2, none⟩), .int .i64 x, .int .i64 y] w fun r w' => r = .returned (.tuple #[]) ∧ ∃ own', Pt N M num u C l w' own' ((x, y) :: e) nx (n + 1) ∧ Ev own w own' w' := by
  obtain ⟨vs, mv, lv, h1, -, h2⟩ := h.walk
  refine (bind_any w M (0 + 2) (M + 1) PT vs mv lv e n x y hx hy h1.arr h1.m h1.l h1.scp h1.lt h1.le hn he).mono ?_
  rintro r w' ⟨rfl, mv', lv', a, s, ev⟩
  exact ⟨rfl, h2 w' _ mv' lv' _ _ rfl (h1.next a s ev.size) ev⟩
theorem backP (N M : Nat) (num : Int) (u : Tt) (C : Int → Bool) (l : List Int) (w : World) (own : Nat → Prop) (e : List (Int × Int)) (nx : Int) (n d : Nat) (h : Pt N M num u C l w own e nx n) (hn : n + e.length < 4611686018427387904) (hd : d ≤ e.length) : Calls Tryz.prog 74 #[.pointer (some ⟨M, 2, none⟩), .int .i64 d] w fun r w' => r = .returned (.tuple #[]) ∧ ∃ own', Pt N M num u C l w' own' (e.drop (e.length - d)) nx (n + e.length) ∧ Ev own w own' w' := by
  obtain ⟨vs, mv, lv, h1, -, h2⟩ := h.walk
  refine (back_any w M (0 + 2) (M + 1) PT vs mv lv e n d h1.arr h1.m h1.l h1.scp h1.lt hn hd).mono ?_
  rintro r w' ⟨rfl, lv', a, s, ev⟩
  have a' : Arr w' M PT ((vs.set (0 + 2) mv).set (0 + 2 + 1) lv') := by rw [set_same h1.m]; exact a
  exact ⟨rfl, h2 w' _ mv lv' _ _ rfl (h1.next a' s ev.size) ev⟩
theorem Pt.byc {N M : Nat} {num : Int} {u : Tt} {C : Int → Bool} {l : List Int} {w : World} {own : Nat → Prop} {e : List (Int × Int)} {nx : Int} {n : Nat} (h : Pt N M num u C l w own e nx n) : ∃ x y a' c' m' a c m kb, w.cell? ⟨M, 7, none⟩ = some (.int .i64 x) ∧ w.cell? ⟨M, 8, none⟩ = some (.int .i64 y) ∧ w.cell? ⟨M, 9, none⟩ = some (.slice a' m' c') ∧ w.cell? ⟨M, 10, none⟩ = some (.slice a m c) ∧ TAt w (fun b => b < N) kb [.int .i64 x, .int .i64 y, .slice a' m' c', .slice a m c] u := by
  obtain ⟨⟨vs, mv, lv, Cc, Ct, ub, kb, h1, h2, h3, h4, -⟩, -⟩ := h
  obtain ⟨a', c', a, c, rfl⟩ := h4.form
  exact ⟨_, _, _, _, _, _, _, _, kb, (h1.arr.cell 7).trans (h3 0 _ rfl), (h1.arr.cell 8).trans (h3 1 _ rfl), (h1.arr.cell 9).trans (h3 2 _ rfl), (h1.arr.cell 10).trans (h3 3 _ rfl), h4⟩
end Go.Proofs.YtigliglmejkakaaGreat.Tgt

namespace Go.Proofs.YtigliglmejkakaaGreat.Tgt
open Go.RowKit Go.Maps
set_option linter.unusedVariables false
set_option linter.unusedSimpArgs false

set_option maxHeartbeats 1000000 in
set_option maxRecDepth 100000 in
theorem copy_any (w : World) (bd bs nd ns : Nat) (S T : Int → Bool) (hd : SetIs w bd nd S) (hs : SetIs w bs ns T) (hne : bd ≠ bs) (hroom : nd + ns ≤ 1152921504606846976) : Calls Tryz.prog 68 #[.map (some bd), .map (some bs)] w fun e w' => e = .returned (.tuple #[]) ∧ SetIs w' bd (nd + ns) (fun x => S x || T x) ∧ w.grownBy w' (some bd) := by
  obtain ⟨Dd, od, md, fd⟩ := hd
  obtain ⟨Ds, os, ms, fs⟩ := hs
  have hbd := od.lt
  have hbs := os.lt
  have hsz := os.size_le
  have HR : Hid (nd + ns < maxLen) := by show _ < _; unfold maxLen; omega
  have HFS := hid fs
  have HFD := hid fd
  clear hroom fs fd
  go_enter Tryz.func68, Tryz.ntmps68
  go_wp2_with (first
    | (at_range; refine wpList_range_own _ rfl _ 106 rfl 3 107 int_key Tryz.underlying106 unitElem bs ns _ rfl os ?_; intro w0 hrg0 hg0 hs0)
    | go_in)
  go_frame
  go_loopw [8] (fun _ wr => ∃ (left : Lit → Bool) (cnt : Nat) (Dout : DataW Unit), wr.ranges Tryz.prog 3 unitElem bs w.heap.size ns Ds left cnt ∧ cnt ≤ Maps.size Ds ∧ wr.ownsMap Tryz.prog 3 unitElem bd (nd + (Maps.size Ds - cnt)) Dout ∧ Hid (Maps.IsMap Dout ∧ ∀ x : Int, Maps.has Dout (.int .i64 x) = (S x || (T x && !left (.int .i64 x)))) ∧ w.grownBy wr (some bd)) (fun _ wr => wr.rangeLeft bs w.heap.size)
  case atStart => exact ⟨_, _, Dd, hrg0, Nat.le_refl _, (od.kept hg0 (by simp)).mono (by omega), hid ⟨md, fun x => by rw [HFD.out, HFS.out]; cases S x <;> cases T x <;> rfl⟩, hg0.but _⟩
  case round =>
    obtain ⟨left, cnt, Dout, hrg, hcs, hout, hM, hgw⟩ := hrel
    go_wp2_with (first
      | (at_next; refine wpList_next_ranges _ rfl _ rfl 3 int_key unitElem id id (fun key _ _ => ⟨key, rfl⟩) (fun v _ _ => ⟨v, rfl⟩) bs w.heap.size ns _ _ _ rfl hrg ?_ ?_)
      | go_in)
    · intro hc0 hl0
      go_wp2
      go_end0
      subst hc0
      refine ⟨rfl, ⟨Dout, hout.mono (by omega), hM.out.1, fun x => ?_⟩, hgw⟩
      rw [hM.out.2 x, hl0]; simp
    · intro x c kl yd yp w1 cnt1 hkey hlx hv hat hrg1 hlt hg1 hs1 hen
      obtain ⟨y, rfl, rfl, -⟩ := Maps.keyOf_i64 Tryz.underlying3 hkey
      obtain ⟨rfl, hyy⟩ := unitElem_inv hv
      have hTy : T y = true := by rw [← HFS.out]; exact Maps.has_true_of_atKey hat
      have HTY := hid hTy
      have hout1 := (hout.kept hg1 (fun e => by have := Option.some.inj e; omega)).alloc (.cells #[] 107)
      clear hTy hat hlx
      go_wp2_with (first
        | (at_mapUpdate; refine wpList_mapUpdate_own _ rfl _ _ _ 106 rfl 3 107 int_key Tryz.underlying106 unitElem bd _ _ rfl hout1 (by have := HR.out; omega) _ _ _ rfl rfl hkey yd yp hv ?_; intro w2 hout2 hg2; go_frame)
        | go_in)
      have hrg2 := (hrg1.kept (World.grownBy_alloc w1 (.cells #[] 107) none) (by simp) (by simp)).kept hg2 (fun e => hne (Option.some.inj e).symm) (fun e => by have := Option.some.inj e; omega)
      go_roundw
      case rel =>
        refine ⟨_, cnt1, _, hrg2, by omega, hout2.mono (by omega), hid ⟨hout2.isMap, fun z => ?_⟩, ?_⟩
        · by_cases hz : z = y
          · subst hz
            rw [Maps.has_put_same hM.out.1 (keylit z), HTY.out]
            simp [Lit.sameKey]
          · rw [Maps.has_put_other (fun h => hz (by injection h)), hM.out.2 z]
            have : (Lit.int .i64 z).sameKey (.int .i64 y) = false := by simp [Lit.sameKey, hz]
            rw [this]; simp
        · exact ((hgw.andThen hg1 (fun j hj => .inl (by cases hj; exact Nat.le_refl _))).andThen (World.grownBy_alloc w1 (.cells #[] 107) none) (fun j hj => by cases hj)).andThen hg2 (fun j hj => .inr hj)
      case measure => rw [hrg2.left_eq, hrg.left_eq]; exact hlt
end Go.Proofs.YtigliglmejkakaaGreat.Tgt

namespace Go.Proofs
open Go.Shelf
def Tryz.keysA_ren : Go.Shelf.Ren := ⟨fun | 7 => 37 | 10 => 78 | n => n, fun | 23 => 106 | 26 => 3 | 3 => 107 | 28 => 104 | 0 => 0 | 27 => 103 | 33 => 122 | 4 => 4 | n => n, fun | n => n⟩
theorem Tryz.keysA : Go.Proofs.SlLaysZI.n7 Tryz.prog Tryz.keysA_ren := {
  mixed := by kernel_rfl
  f7 := ⟨Tryz.f37.name, by decide, Tryz.func37.trans (congrArg some (by kernel_rfl))⟩
  f10 := ⟨Tryz.f78.name, by decide, Tryz.func78.trans (congrArg some (by kernel_rfl))⟩
  t0 := Tryz.underlying0
  a0 := Tryz.isAgg0
  z0 := Tryz.sizeOf0
  v0 := Tryz.zeroValue0
  t4 := Tryz.underlying4
  a4 := Tryz.isAgg4
  z4 := Tryz.sizeOf4
  v4 := Tryz.zeroValue4
  t23 := Tryz.underlying106
  a23 := Tryz.isAgg106
  z23 := Tryz.sizeOf106
  v23 := Tryz.zeroValue106
  t26 := Tryz.underlying3
  a26 := Tryz.isAgg3
  z26 := Tryz.sizeOf3
  v26 := Tryz.zeroValue3
  t27 := Tryz.underlying103
  a27 := Tryz.isAgg103
  z27 := Tryz.sizeOf103
  v27 := Tryz.zeroValue103
  t28 := Tryz.underlying104
  a28 := Tryz.isAgg104
  z28 := Tryz.sizeOf104
  v28 := Tryz.zeroValue104
  t33 := Tryz.underlying122
  a33 := Tryz.isAgg122
  z33 := Tryz.sizeOf122
  v33 := Tryz.zeroValue122 }
def Tryz.sortedA_ren : Go.Shelf.Ren := ⟨fun | 6 => 36 | 8 => 76 | 9 => 77 | 11 => 101 | 13 => 103 | 12 => 102 | 23 => 122 | 24 => 123 | 14 => 113 | 15 => 114 | 16 => 115 | 17 => 116 | 18 => 117 | 19 => 118 | 20 => 119 | 21 => 120 | 22 => 121 | 25 => 138 | 26 => 139 | 27 => 140 | 28 => 141 | 29 => 142 | 30 => 95 | 31 => 152 | n => n, fun | 26 => 3 | 28 => 104 | 24 => 38 | 0 => 0 | 3 => 3 | 37 => 190 | 48 => 212 | 50 => 214 | 4 => 4 | 40 => 205 | 39 => 204 | 45 => 170 | 5 => 5 | 9 => 9 | 51 => 234 | 55 => 238 | 57 => 245 | 58 => 246 | 33 => 122 | n => n, fun | n => n⟩
theorem Tryz.sortedA : Go.Proofs.SlLaysZI.n6 Tryz.prog Tryz.sortedA_ren := {
  mixed := by kernel_rfl
  f6 := ⟨Tryz.f36.name, by decide, Tryz.func36.trans (congrArg some (by kernel_rfl))⟩
  f8 := ⟨Tryz.f76.name, by decide, Tryz.func76.trans (congrArg some (by kernel_rfl))⟩
  f11 := ⟨Tryz.f101.name, by decide, Tryz.func101.trans (congrArg some (by kernel_rfl))⟩
  t0 := Tryz.underlying0
  a0 := Tryz.isAgg0
  z0 := Tryz.sizeOf0
  v0 := Tryz.zeroValue0
  t24 := Tryz.underlying38
  a24 := Tryz.isAgg38
  z24 := Tryz.sizeOf38
  v24 := Tryz.zeroValue38
  t26 := Tryz.underlying3
  a26 := Tryz.isAgg3
  z26 := Tryz.sizeOf3
  v26 := Tryz.zeroValue3
  t28 := Tryz.underlying104
  a28 := Tryz.isAgg104
  z28 := Tryz.sizeOf104
  v28 := Tryz.zeroValue104
  i26 := by kernel_rfl }
def Tryz.sortA_ren : Go.Shelf.Ren := ⟨fun | 5 => 77 | 8 => 103 | 7 => 102 | 19 => 122 | 20 => 123 | 10 => 113 | 11 => 114 | 12 => 115 | 13 => 116 | 14 => 117 | 15 => 118 | 16 => 119 | 17 => 120 | 18 => 121 | 30 => 138 | 31 => 139 | 32 => 140 | 33 => 141 | 34 => 142 | 35 => 95 | 40 => 152 | n => n, fun | 23 => 38 | 25 => 3 | 3 => 3 | 32 => 190 | 22 => 38 | 0 => 0 | 44 => 212 | 46 => 214 | 4 => 4 | 36 => 205 | 35 => 204 | 41 => 170 | 5 => 5 | 9 => 9 | 53 => 234 | 57 => 238 | 63 => 245 | 64 => 246 | n => n, fun | n => n⟩
theorem Tryz.sortA : Go.Proofs.SlLaysM.n5 Tryz.prog Tryz.sortA_ren := {
  mixed := by kernel_rfl
  f5 := ⟨Tryz.f77.name, by decide, Tryz.func77.trans (congrArg some (by kernel_rfl))⟩
  f7 := ⟨Tryz.f102.name, by decide, Tryz.func102.trans (congrArg some (by kernel_rfl))⟩
  f8 := Tryz.func103.trans (congrArg some (by kernel_rfl))
  f10 := ⟨Tryz.f113.name, by decide, Tryz.func113.trans (congrArg some (by kernel_rfl))⟩
  f11 := ⟨Tryz.f114.name, by decide, Tryz.func114.trans (congrArg some (by kernel_rfl))⟩
  f12 := ⟨Tryz.f115.name, by decide, Tryz.func115.trans (congrArg some (by kernel_rfl))⟩
  f13 := ⟨Tryz.f116.name, by decide, Tryz.func116.trans (congrArg some (by kernel_rfl))⟩
  f14 := ⟨Tryz.f117.name, by decide, Tryz.func117.trans (congrArg some (by kernel_rfl))⟩
  f15 := ⟨Tryz.f118.name, by decide, Tryz.func118.trans (congrArg some (by kernel_rfl))⟩
  f16 := ⟨Tryz.f119.name, by decide, Tryz.func119.trans (congrArg some (by kernel_rfl))⟩
  f17 := ⟨Tryz.f120.name, by decide, Tryz.func120.trans (congrArg some (by kernel_rfl))⟩
  f18 := ⟨Tryz.f121.name, by decide, Tryz.func121.trans (congrArg some (by kernel_rfl))⟩
  f19 := Tryz.func122.trans (congrArg some (by kernel_rfl))
  f20 := Tryz.func123.trans (congrArg some (by kernel_rfl))
  f30 := ⟨Tryz.f138.name, by decide, Tryz.func138.trans (congrArg some (by kernel_rfl))⟩
  f31 := Tryz.func139.trans (congrArg some (by kernel_rfl))
  f32 := Tryz.func140.trans (congrArg some (by kernel_rfl))
  f33 := ⟨Tryz.f141.name, by decide, Tryz.func141.trans (congrArg some (by kernel_rfl))⟩
  f34 := ⟨Tryz.f142.name, by decide, Tryz.func142.trans (congrArg some (by kernel_rfl))⟩
  f35 := ⟨Tryz.f95.name, by decide, Tryz.func95.trans (congrArg some (by kernel_rfl))⟩
  f40 := ⟨Tryz.f152.name, by decide, Tryz.func152.trans (congrArg some (by kernel_rfl))⟩
  t0 := Tryz.underlying0
  a0 := Tryz.isAgg0
  z0 := Tryz.sizeOf0
  v0 := Tryz.zeroValue0
  t3 := Tryz.underlying3
  a3 := Tryz.isAgg3
  z3 := Tryz.sizeOf3
  v3 := Tryz.zeroValue3
  t4 := Tryz.underlying4
  a4 := Tryz.isAgg4
  z4 := Tryz.sizeOf4
  v4 := Tryz.zeroValue4
  t5 := Tryz.underlying5
  a5 := Tryz.isAgg5
  z5 := Tryz.sizeOf5
  v5 := Tryz.zeroValue5
  t9 := Tryz.underlying9
  a9 := Tryz.isAgg9
  z9 := Tryz.sizeOf9
  v9 := Tryz.zeroValue9
  t22 := Tryz.underlying38
  a22 := Tryz.isAgg38
  z22 := Tryz.sizeOf38
  v22 := Tryz.zeroValue38
  t23 := Tryz.underlying38
  a23 := Tryz.isAgg38
  z23 := Tryz.sizeOf38
  v23 := Tryz.zeroValue38
  t25 := Tryz.underlying3
  a25 := Tryz.isAgg3
  z25 := Tryz.sizeOf3
  v25 := Tryz.zeroValue3
  t32 := Tryz.underlying190
  a32 := Tryz.isAgg190
  z32 := Tryz.sizeOf190
  v32 := Tryz.zeroValue190
  t35 := Tryz.underlying204
  a35 := Tryz.isAgg204
  z35 := Tryz.sizeOf204
  v35 := Tryz.zeroValue204
  t36 := Tryz.underlying205
  a36 := Tryz.isAgg205
  z36 := Tryz.sizeOf205
  v36 := Tryz.zeroValue205
  t41 := Tryz.underlying170
  a41 := Tryz.isAgg170
  z41 := Tryz.sizeOf170
  v41 := Tryz.zeroValue170
  t44 := Tryz.underlying212
  a44 := Tryz.isAgg212
  z44 := Tryz.sizeOf212
  v44 := Tryz.zeroValue212
  t46 := Tryz.underlying214
  a46 := Tryz.isAgg214
  z46 := Tryz.sizeOf214
  v46 := Tryz.zeroValue214
  t53 := Tryz.underlying234
  a53 := Tryz.isAgg234
  z53 := Tryz.sizeOf234
  v53 := Tryz.zeroValue234
  t57 := Tryz.underlying238
  a57 := Tryz.isAgg238
  z57 := Tryz.sizeOf238
  v57 := Tryz.zeroValue238
  t63 := Tryz.underlying245
  a63 := Tryz.isAgg245
  z63 := Tryz.sizeOf245
  v63 := Tryz.zeroValue245
  t64 := Tryz.underlying246
  a64 := Tryz.isAgg246
  z64 := Tryz.sizeOf246
  v64 := Tryz.zeroValue246 }
end Go.Proofs
