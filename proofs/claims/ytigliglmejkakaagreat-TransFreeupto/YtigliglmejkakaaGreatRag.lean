/- Target types that are being made: a node whose Kids are appended one by one. Schemes: plain mathematics. What stands in a type: plain mathematics. The document's stamps, made. walk, where what looks at the nodes grows by one a node at most, and may not grow beyond L. The gatherer: the numbers of the nodes of a kind, each once. -/
import Derived.Deep.RegionHeld
import Derived.Maps.OwnSet
import Derived.Test.YtigliglmejkakaaGreatRae
import Derived.Test.YtigliglmejkakaaGreatRaf
import Derived.Test.YtigliglmejkakaaGreatRaa
import Derived.Test.YtigliglmejkakaaGreatRab
import Derived.Test.YtigliglmejkakaaGreatRac
namespace Go.Proofs.YtigliglmejkakaaGreat
open Go.RowKit
set_option linter.unusedVariables false
set_option linter.unusedSimpArgs false

theorem info_tt : (Tryz.prog.info? 28).map (fun i => (i.zero, i.size, i.bytes)) = some (some (.agg #[.int .i64 0, .int .i64 0, .slice none 0 0, .slice none 0 0]), 4, 64) := by kernel_rfl
/-- The node's box OB and the row of its Kids, which lies in blocks from base on. -/
structure Kd (OB base : Nat) (kk nn : Int) (ys : List Tgt.Tt) (N : Nat) (ov : Value) (xs : List Value) (wr : World) : Prop where
  lo : OB < base
  le : base ≤ wr.heap.size
  ob : Arr wr OB 28 [.int .i64 kk, .int .i64 nn, .slice none 0 0, ov]
  own : wr.ownsRow base 28 4 ov ys.length xs
  el : ∀ (i : Nat) y, ys[i]? = some y → ∃ a' c' a c, Tgt.TAt wr (fun b => base ≤ b ∧ ov.ownBlock ≠ some b) N [.int .i64 y.k, .int .i64 y.n, .slice a' y.ls.length c', .slice a y.ks.length c] y ∧ Seg xs (i * 4) [.int .i64 y.k, .int .i64 y.n, .slice a' y.ls.length c', .slice a y.ks.length c]
theorem Kd.stays {OB base : Nat} {kk nn : Int} {ys : List Tgt.Tt} {N : Nat} {ov : Value} {xs : List Value} {wr wz : World} (h : Kd OB base kk nn ys N ov xs wr) (hb : Below wr.heap.size wr wz) : Kd OB base kk nn ys N ov xs wz :=
  ⟨h.lo, Nat.le_trans h.le hb.size, h.ob.stays hb, own_stays h.own hb, fun i y hy => by obtain ⟨a', c', a, c, h1, h2⟩ := h.el i y hy; exact ⟨a', c', a, c, h1.below hb, h2⟩⟩
theorem Kd.start {w : World} (kk nn : Int) {cs : List Value} (hcs : cs = [.int .i64 kk, .int .i64 nn, .slice none 0 0, .slice none 0 0]) : Kd w.heap.size (w.heap.size + 1) kk nn [] 0 (.slice none 0 0) [] (w.alloc (.cells cs.toArray 28)) := by
  subst hcs
  exact ⟨Nat.lt_succ_self _, by rw [size_alloc]; exact Nat.le_refl _, ⟨heap_alloc_at _ _⟩, World.ownsRow_nil _ _ _ _, fun i y hy => by simp at hy⟩
theorem Kd.row {OB base : Nat} {kk nn : Int} {ys : List Tgt.Tt} {N : Nat} {ov : Value} {xs : List Value} {wr : World} (h : Kd OB base kk nn ys N ov xs wr) : ∀ b, ov.ownBlock = some b → base ≤ b := fun b hb => (h.own.lt b hb).1
theorem Tgt_both {w : World} {K : Nat → Prop} {n : Nat} {vs : List Value} {t : Tgt.Tt} (h : Tgt.TAt w K n vs t) : Tgt.TAt w (fun b => K b ∧ b < w.heap.size) n vs t := h.old
/-- One more. -/
theorem Kd.app {OB base : Nat} {kk nn : Int} {ys : List Tgt.Tt} {N : Nat} {ov v' : Value} {xs : List Value} {w1 w2 : World} (h : Kd OB base kk nn ys N ov xs w1) {y : Tgt.Tt} {n' : Nat} {a' a : Option Addr} {c' c : Nat}
    (hT : Tgt.TAt w1 (fun b => base ≤ b ∧ ov.ownBlock ≠ some b) n' [.int .i64 y.k, .int .i64 y.n, .slice a' y.ls.length c', .slice a y.ks.length c] y)
    (hown : w2.ownsRow base 28 4 v' (ys.length + 1) (xs ++ [.int .i64 y.k, .int .i64 y.n, .slice a' y.ls.length c', .slice a y.ks.length c])) (hg : w1.grownBy w2 ov.ownBlock) (hf : Fresh w1 ov v') :
    Kd OB base kk nn (ys ++ [y]) (max N n') v' (xs ++ [.int .i64 y.k, .int .i64 y.n, .slice a' y.ls.length c', .slice a y.ks.length c]) (w2.setCell ⟨OB, 3, none⟩ v') := by
  have hlo := h.lo
  have hrow := h.row
  have hrow' : ∀ b, v'.ownBlock = some b → base ≤ b := fun b hb => (hown.lt b hb).1
  have mv : ∀ {n0 : Nat} {vs : List Value} {z : Tgt.Tt}, Tgt.TAt w1 (fun b => base ≤ b ∧ ov.ownBlock ≠ some b) n0 vs z → Tgt.TAt (w2.setCell ⟨OB, 3, none⟩ v') (fun b => base ≤ b ∧ v'.ownBlock ≠ some b) n0 vs z := by
    intro n0 vs z hz
    refine hz.old.move (fun b o u hb hu => ?_) (fun b hb => ⟨hb.1.1, fun e => ?_⟩)
    · have hb1 := hb.1.1
      rw [World.cell?_of_block (w := w2) (Below.heap_setCell _ _ _ _ (by show b ≠ OB; omega)), World.cell?_of_block (w := w1) (hg.block b hb.2 (fun e => hb.1.2 e.symm))]
      exact hu
    · rcases hf with h1 | h1
      · exact hb.1.2 (by rw [← h1]; exact e)
      · have := h1 b e; have := hb.2; omega
  have hxl : xs.length = ys.length * 4 := h.own.1
  refine ⟨h.lo, by have := hg.size; have := h.le; simp [World.setCell]; omega, (h.ob.grown hg (fun e => by have := hrow _ e.symm; omega)).set 3 _, ?_, fun i z hz => ?_⟩
  · rw [List.length_append]
    exact hown.kept (row := some OB) ⟨rfl, rfl, rfl, by simp [World.setCell], fun b _ hb => Below.heap_setCell _ _ _ _ (fun e => hb (by simp [e]))⟩ (Or.inr (fun e => by have := hrow' _ e; omega))
  · by_cases he : i = ys.length
    · subst he
      rw [List.getElem?_append_right (Nat.le_refl _)] at hz
      simp at hz
      subst hz
      refine ⟨a', c', a, c, (mv hT).le (Nat.le_max_right _ _), fun j u hu => ?_⟩
      rw [List.getElem?_append_right (by omega), hxl]
      rw [show ys.length * 4 + j - ys.length * 4 = j by omega]
      exact hu
    · have hi : i < ys.length := by
        have := (List.getElem?_eq_some_iff.1 hz).1
        rw [List.length_append] at this
        simp at this
        omega
      rw [List.getElem?_append_left hi] at hz
      obtain ⟨a1, c1, a2, c2, g1, g2⟩ := h.el i z hz
      refine ⟨a1, c1, a2, c2, (mv g1).le (Nat.le_max_left _ _), fun j u hu => ?_⟩
      have hj := (List.getElem?_eq_some_iff.1 hu).1
      simp only [List.length_cons, List.length_nil] at hj
      rw [List.getElem?_append_left (by omega)]
      exact g2 j u hu
/-- Other boxes stay. -/
theorem Kd.other {OB base : Nat} {kk nn : Int} {ys : List Tgt.Tt} {N : Nat} {ov v' : Value} {xs : List Value} {w1 w2 : World} (h : Kd OB base kk nn ys N ov xs w1) (hg : w1.grownBy w2 ov.ownBlock) {b : Nat} {T : TypeId} {cur : List Value} (hA : Arr w1 b T cur) (hb : b < base) (hne : b ≠ OB) : Arr (w2.setCell ⟨OB, 3, none⟩ v') b T cur :=
  (hA.grown hg (fun e => by have := h.row _ e.symm; omega)).other hne _
theorem Kd.mid {OB base : Nat} {kk nn : Int} {ys : List Tgt.Tt} {N : Nat} {ov : Value} {xs : List Value} {w1 w2 : World} (h : Kd OB base kk nn ys N ov xs w1) (hg : w1.grownBy w2 ov.ownBlock) : Arr w2 OB 28 [.int .i64 kk, .int .i64 nn, .slice none 0 0, ov] ∧ ∀ {b : Nat} {T : TypeId} {cur : List Value}, Arr w1 b T cur → b < base → Arr w2 b T cur :=
  ⟨h.ob.grown hg (fun e => by have := h.row _ e.symm; have := h.lo; omega), fun hA hb => hA.grown hg (fun e => by have := h.row _ e.symm; omega)⟩
theorem Kd.below {OB base B : Nat} {kk nn : Int} {ys : List Tgt.Tt} {N : Nat} {ov v' : Value} {xs : List Value} {w w1 w2 : World} (h : Kd OB base kk nn ys N ov xs w1) (hg : w1.grownBy w2 ov.ownBlock) (hB : B ≤ OB) (hb : Below B w w1) : Below B w (w2.setCell ⟨OB, 3, none⟩ v') :=
  ((hb.grown hg (by have := h.le; have := h.lo; omega) (fun b e => by have := h.row _ e; have := h.lo; omega))).setCell (p := ⟨OB, 3, none⟩) hB _
theorem Kd.fin {OB base : Nat} {kk nn : Int} {ys : List Tgt.Tt} {N : Nat} {ov : Value} {xs : List Value} {wr W : World} (h : Kd OB base kk nn ys N ov xs wr) (hk : Tgt.Keeps (fun b => base ≤ b) wr W) (h1 : Tgt.R64 kk) (h2 : Tgt.R64 nn) (hl : ys.length ≤ 1099511627776) : Tgt.TAt W (fun b => base ≤ b) (N + 1) [.int .i64 kk, .int .i64 nn, .slice none 0 0, ov] (.mk kk nn [] ys) := by
  refine ⟨.slice none 0 0, ov, rfl, h1, h2, .inr ⟨rfl, none, 0, rfl⟩, ?_⟩
  show Tgt.TAtL W _ N ov ys
  rcases h.own.2 with ⟨rfl, h0⟩ | ⟨g, cap, cur, rfl, hb, hh, hle, hcm, hsz, htk⟩
  · exact .inr ⟨List.eq_nil_of_length_eq_zero h0, none, 0, rfl⟩
  · refine .inl ⟨g, 0, cap, rfl, hb, hle, by unfold maxLen; omega, fun i y hy => ?_⟩
    obtain ⟨a', c', a, c, g1, g2⟩ := h.el i y hy
    refine ⟨_, fun j u hu => hk g _ _ hb ?_, g1.move (fun b o u hb hu => hk b o u hb.1 hu) (fun b hb => hb.1)⟩
    have hq := g2 j u hu
    rw [← htk, List.getElem?_take] at hq
    split at hq
    · rw [cell_at hh, Nat.zero_add]
      rw [Array.getElem?_toList] at hq
      exact hq
    · cases hq
theorem Kd.kp {OB base : Nat} {kk nn : Int} {ys : List Tgt.Tt} {N : Nat} {ov : Value} {xs : List Value} {w1 w3 : World} (h : Kd OB base kk nn ys N ov xs w1) {n : Nat} {vs : List Value} {y : Tgt.Tt} (hT : Tgt.TAt w3 (fun b => w1.heap.size ≤ b) n vs y) : Tgt.TAt w3 (fun b => base ≤ b ∧ ov.ownBlock ≠ some b) n vs y :=
  hT.move (Tgt.Keeps.refl _ _) (fun b hb => ⟨Nat.le_trans h.le hb, fun e => by have := (h.own.lt b e).2; omega⟩)
theorem Kd.app4 {OB base : Nat} {kk nn : Int} {ys : List Tgt.Tt} {N : Nat} {ov v' : Value} {xs : List Value} {w1 w2 : World} (h : Kd OB base kk nn ys N ov xs w1) {y : Tgt.Tt} (hls : y.ls = []) {n' : Nat} {a : Option Addr} {c : Nat}
    (hT : Tgt.TAt w1 (fun b => base ≤ b ∧ ov.ownBlock ≠ some b) n' [.int .i64 y.k, .int .i64 y.n, .slice none 0 0, .slice a y.ks.length c] y)
    (hown : w2.ownsRow base 28 4 v' (ys.length + 1) (xs ++ [.int .i64 y.k, .int .i64 y.n, .slice none 0 0, .slice a y.ks.length c])) (hg : w1.grownBy w2 ov.ownBlock) (hf : Fresh w1 ov v') :
    Kd OB base kk nn (ys ++ [y]) (max N n') v' (xs ++ [.int .i64 y.k, .int .i64 y.n, .slice none 0 0, .slice a y.ks.length c]) (w2.setCell ⟨OB, 3, none⟩ v') := by
  have hl : y.ls.length = 0 := by rw [hls]; rfl
  have := h.app (y := y) (a' := none) (c' := 0) (by rw [hl]; exact hT) (by rw [hl]; exact hown) hg hf
  rw [hl] at this
  exact this
theorem Kd.bg {OB base B : Nat} {kk nn : Int} {ys : List Tgt.Tt} {N : Nat} {ov : Value} {xs : List Value} {w w1 w2 : World} (h : Kd OB base kk nn ys N ov xs w1) (hg : w1.grownBy w2 ov.ownBlock) (hB : B ≤ base) (hb : Below B w w1) : Below B w w2 :=
  hb.grown hg (by have := h.le; omega) (fun b e => by have := h.row _ e; omega)
theorem addr_add14 (b o k : Nat) : (⟨b, o, none⟩ : Addr).add k = ⟨b, o + k, none⟩ := by simp [Addr.add]
end Go.Proofs.YtigliglmejkakaaGreat

namespace Go.Proofs.YtigliglmejkakaaGreat
open Go.RowKit
set_option linter.unusedVariables false
set_option linter.unusedSimpArgs false

theorem hid {p : Prop} (h : p) : Hid p := h
/-- Do the numbers rise by one from i on? -/
def Tp.ups : List Int → Nat → Bool
  | [], _ => true
  | x :: r, i => decide (x = i) && Tp.ups r (i + 1)
/-- Is the scheme right? -/
def Tp.rightS (g : Int) (t : Tp) : Bool := t.right && (Tp.ups (Tp.found 8 t []) 0 && decide (((Tp.found 8 t []).length : Int) = g))
theorem Tp.ups_at {l : List Int} {k : Nat} {x : Int} (hx : l[k]? = some x) : Tp.ups (l.drop k) k = (decide (x = k) && Tp.ups (l.drop (k + 1)) (k + 1)) := by
  obtain ⟨h1, e1⟩ := List.getElem?_eq_some_iff.1 hx
  rw [List.drop_eq_getElem_cons h1, e1, Tp.ups]
mutual
/-- Each node's kind and number made anew. -/
def Tp.ren (f : Int → Int → Int × Int) : Tp → Tp
  | .mk k n ks => .mk (f k n).1 (f k n).2 (Tp.renL f ks)
def Tp.renL (f : Int → Int → Int × Int) : List Tp → List Tp
  | [] => []
  | x :: r => Tp.ren f x :: Tp.renL f r
end
theorem Tp.renL_map (f : Int → Int → Int × Int) : ∀ l : List Tp, Tp.renL f l = l.map (Tp.ren f)
  | [] => by rw [Tp.renL]; rfl
  | x :: r => by rw [Tp.renL, Tp.renL_map f r]; rfl
theorem Tp.ren_eq (f : Int → Int → Int × Int) (t : Tp) : Tp.ren f t = .mk (f t.k t.n).1 (f t.k t.n).2 (t.ks.map (Tp.ren f)) := by
  obtain ⟨k, n, ks⟩ := t
  rw [Tp.ren, Tp.renL_map]; rfl
mutual
theorem Tp.cnt_ren (f : Int → Int → Int × Int) : ∀ t : Tp, (Tp.ren f t).cnt = t.cnt
  | .mk k n ks => by rw [Tp.ren, Tp.cnt, Tp.cnt, Tp.cntL_ren f ks]
theorem Tp.cntL_ren (f : Int → Int → Int × Int) : ∀ l : List Tp, Tp.cntL (Tp.renL f l) = Tp.cntL l
  | [] => by rw [Tp.renL]
  | x :: r => by rw [Tp.renL, Tp.cntL, Tp.cntL, Tp.cnt_ren f x, Tp.cntL_ren f r]
end
end Go.Proofs.YtigliglmejkakaaGreat

namespace Go.Proofs.YtigliglmejkakaaGreat
open Go.RowKit
set_option linter.unusedVariables false
set_option linter.unusedSimpArgs false

mutual
/-- The nodes of a kind, from the left. -/
def Tp.all (kind : Int) : Tp → List Int
  | .mk k n ks => (if k = kind then [n] else []) ++ Tp.allL kind ks
def Tp.allL (kind : Int) : List Tp → List Int
  | [] => []
  | x :: r => Tp.all kind x ++ Tp.allL kind r
end
/-- A list without what comes again. -/
def dd (l : List Int) (xs : List Int) : List Int := xs.foldl Tp.ins l
mutual
theorem Tp.found_dd (kind : Int) : ∀ (t : Tp) (l : List Int), Tp.found kind t l = dd l (Tp.all kind t)
  | .mk k n ks, l => by
    rw [Tp.found_mk, Tp.all, Tp.foundL_dd kind ks]
    by_cases h : k = kind
    · rw [if_pos h, if_pos h]; rfl
    · rw [if_neg h, if_neg h]; rfl
theorem Tp.foundL_dd (kind : Int) : ∀ (ts : List Tp) (l : List Int), Tp.foundL kind ts l = dd l (Tp.allL kind ts)
  | [], l => by rw [Tp.foundL_nil, Tp.allL]; rfl
  | x :: r, l => by rw [Tp.foundL_cons, Tp.allL, Tp.found_dd kind x, Tp.foundL_dd kind r]; unfold dd; rw [List.foldl_append]
end
theorem mem_ins {l : List Int} {n x : Int} : x ∈ Tp.ins l n ↔ x ∈ l ∨ x = n := by
  unfold Tp.ins
  by_cases h : n ∈ l
  · rw [if_pos h]
    constructor
    · exact .inl
    · rintro (h1 | rfl)
      · exact h1
      · exact h
  · rw [if_neg h]; simp
theorem mem_dd : ∀ {xs l : List Int} {x : Int}, x ∈ dd l xs ↔ x ∈ l ∨ x ∈ xs
  | [], l, x => by simp [dd]
  | y :: r, l, x => by
    show x ∈ dd (Tp.ins l y) r ↔ _
    rw [mem_dd, mem_ins]
    simp [or_assoc]
theorem dd_nodup : ∀ (xs l : List Int), l.Nodup → (dd l xs).Nodup
  | [], l, h => h
  | y :: r, l, h => by
    show (dd (Tp.ins l y) r).Nodup
    refine dd_nodup r _ ?_
    unfold Tp.ins
    by_cases hm : y ∈ l
    · rw [if_pos hm]; exact h
    · rw [if_neg hm]
      rw [List.nodup_append]
      refine ⟨h, by simp, fun a ha b hb e => ?_⟩
      rw [List.mem_singleton.1 hb] at e
      exact hm (e ▸ ha)
theorem dd_len : ∀ (xs l : List Int), (dd l xs).length ≤ l.length + xs.length
  | [], l => by simp [dd]
  | y :: r, l => by
    have h := dd_len r (Tp.ins l y)
    have h2 : (Tp.ins l y).length ≤ l.length + 1 := by
      unfold Tp.ins
      split
      · omega
      · simp
    show (dd (Tp.ins l y) r).length ≤ _
    simp only [List.length_cons]
    omega
mutual
theorem Tp.all_len (kind : Int) : ∀ t : Tp, (Tp.all kind t).length ≤ t.cnt
  | .mk k n ks => by
    rw [Tp.all, Tp.cnt, List.length_append]
    have := Tp.allL_len kind ks
    split
    · simp; omega
    · simp; omega
theorem Tp.allL_len (kind : Int) : ∀ l : List Tp, (Tp.allL kind l).length ≤ Tp.cntL l
  | [] => by rw [Tp.allL]; simp
  | x :: r => by
    rw [Tp.allL, Tp.cntL, List.length_append]
    have := Tp.all_len kind x
    have := Tp.allL_len kind r
    omega
end
theorem Tp.found_len (kind : Int) (t : Tp) : (Tp.found kind t []).length ≤ t.cnt := by
  rw [Tp.found_dd]
  have h1 := dd_len (Tp.all kind t) []
  have h2 := Tp.all_len kind t
  simp only [List.length_nil] at h1
  omega
theorem Tp.found_nodup (kind : Int) (t : Tp) : (Tp.found kind t []).Nodup := by rw [Tp.found_dd]; exact dd_nodup _ _ (by simp)
theorem Tp.mem_fnd {kind : Int} {t : Tp} {x : Int} : x ∈ Tp.found kind t [] ↔ x ∈ Tp.all kind t := by rw [Tp.found_dd, mem_dd]; simp
theorem Tp.mem_allL {kind : Int} {x : Int} : ∀ {l : List Tp}, x ∈ Tp.allL kind l ↔ ∃ t ∈ l, x ∈ Tp.all kind t
  | [] => by rw [Tp.allL]; simp
  | y :: r => by rw [Tp.allL, List.mem_append, Tp.mem_allL]; simp
theorem Tp.all_eq (kind : Int) (t : Tp) : Tp.all kind t = (if t.k = kind then [t.n] else []) ++ Tp.allL kind t.ks := by
  obtain ⟨k, n, ks⟩ := t
  rw [Tp.all]; rfl
theorem TAt.all64 {w : World} {K : Nat → Prop} (kind : Int) : ∀ {n : Nat} {vs : List Value} {t : Tp}, TAt w K n vs t → ∀ x ∈ Tp.all kind t, R64 x
  | 0, _, _, h, _, _ => h.elim
  | n + 1, vs, t, ⟨v, h1, h2, h3, h4⟩, x, hx => by
    rw [Tp.all_eq] at hx
    rcases List.mem_append.1 hx with hx | hx
    · split at hx
      · rw [List.mem_singleton.1 hx]; exact h3
      · cases hx
    · obtain ⟨y, hy, hxy⟩ := Tp.mem_allL.1 hx
      rcases h4 with ⟨b, o, c, hv, hb, hl, hm, hc⟩ | ⟨h0, -⟩
      · obtain ⟨i, hi⟩ := List.getElem?_of_mem hy
        obtain ⟨vs', -, g2⟩ := hc i y hi
        exact TAt.all64 kind g2 x hxy
      · rw [h0] at hy; cases hy
theorem TAt.found64 {w : World} {K : Nat → Prop} (kind : Int) {n : Nat} {vs : List Value} {t : Tp} (h : TAt w K n vs t) : ∀ x ∈ Tp.found kind t [], R64 x := fun x hx => h.all64 kind x (Tp.mem_fnd.1 hx)
end Go.Proofs.YtigliglmejkakaaGreat

namespace Go.Proofs.YtigliglmejkakaaGreat
open Go.RowKit
set_option linter.unusedVariables false
set_option linter.unusedSimpArgs false

mutual
/-- The target type of a right type, its TGen from a number on. -/
def Tp.made (k : Int) : Tp → Tgt.Tt
  | .mk kd n ks => if kd = 1 then .mk 1 0 [] [] else if kd = 2 then .mk 2 0 [] [] else if kd = 3 then .mk 3 0 [] [] else if kd = 6 then .mk 6 n [] [] else if kd = 8 then .mk 6 (k + n) [] [] else .mk (if kd = 5 then 5 else 4) 0 [] (Tp.madeL k ks)
def Tp.madeL (k : Int) : List Tp → List Tgt.Tt
  | [] => []
  | x :: r => Tp.made k x :: Tp.madeL k r
end
theorem Tp.madeL_map (k : Int) : ∀ l : List Tp, Tp.madeL k l = l.map (Tp.made k)
  | [] => by rw [Tp.madeL]; rfl
  | x :: r => by rw [Tp.madeL, Tp.madeL_map k r]; rfl
/-- Are all stamps such as may be? -/
def okStamps (l : List Int) : Bool := l.all fun x => decide (0 ≤ x ∧ x ≤ 2147483647)
theorem okStamps_at {l : List Int} {k : Nat} {x : Int} (hx : l[k]? = some x) : okStamps (l.drop k) = (decide (0 ≤ x ∧ x ≤ 2147483647) && okStamps (l.drop (k + 1))) := by
  obtain ⟨h1, e1⟩ := List.getElem?_eq_some_iff.1 hx
  rw [List.drop_eq_getElem_cons h1, e1]
  rfl

theorem Tp.all_8t {x : Tp} (h : x.k = 8) : x.n ∈ Tp.all 8 x := by
  obtain ⟨k, n, ks⟩ := x
  have h : k = 8 := h
  rw [Tp.all, if_pos h]
  exact List.mem_append_left _ (List.mem_singleton.2 rfl)
theorem Tp.allL_memt {z : Int} : ∀ {l : List Tp} {y : Tp}, y ∈ l → z ∈ Tp.all 8 y → z ∈ Tp.allL 8 l
  | [], y, h, _ => by cases h
  | v :: r, y, h, hz => by
    rw [Tp.allL]
    rcases List.mem_cons.1 h with rfl | h
    · exact List.mem_append_left _ hz
    · exact List.mem_append_right _ (Tp.allL_memt h hz)
theorem Tp.all_kst {x y : Tp} {z : Int} (h : y ∈ x.ks) (hz : z ∈ Tp.all 8 y) : z ∈ Tp.all 8 x := by
  obtain ⟨k, n, ks⟩ := x
  rw [Tp.all]
  exact List.mem_append_right _ (Tp.allL_memt h hz)
theorem Tp.cntL_memt : ∀ {l : List Tp} {y : Tp}, y ∈ l → y.cnt ≤ Tp.cntL l
  | [], y, h => by cases h
  | v :: r, y, h => by
    rw [Tp.cntL]
    rcases List.mem_cons.1 h with rfl | h
    · omega
    · have := Tp.cntL_memt h; omega
theorem Tp.cnt_kst (t : Tp) : t.cnt = Tp.cntL t.ks + 1 := by cases t; rw [Tp.cnt]; rfl
theorem Tp.made_ks (k : Int) (t : Tp) (h1 : t.k ≠ 1) (h2 : t.k ≠ 2) (h3 : t.k ≠ 3) (h6 : t.k ≠ 6) (h8 : t.k ≠ 8) : Tp.made k t = .mk (if t.k = 5 then 5 else 4) 0 [] (t.ks.map (Tp.made k)) := by
  obtain ⟨kd, n, ks⟩ := t
  simp only [Tp.k, Tp.ks] at *
  rw [Tp.made, if_neg h1, if_neg h2, if_neg h3, if_neg h6, if_neg h8, Tp.madeL_map]
  rfl
theorem tat_leaf {w : World} {K : Nat → Prop} (k n : Int) (h1 : Tgt.R64 k) (h2 : Tgt.R64 n) : Tgt.TAt w K 1 [.int .i64 k, .int .i64 n, .slice none 0 0, .slice none 0 0] (.mk k n [] []) :=
  ⟨_, _, rfl, h1, h2, .inr ⟨rfl, none, 0, rfl⟩, .inr ⟨rfl, none, 0, rfl⟩⟩
def TmAns (w : World) (y : Tgt.Tt) (e : Ending) (w' : World) : Prop := ∃ a c N, e = .returned (.agg #[.int .i64 y.k, .int .i64 y.n, .slice none 0 0, .slice a y.ks.length c]) ∧ Tgt.TAt w' (fun b => w.heap.size ≤ b) N [.int .i64 y.k, .int .i64 y.n, .slice none 0 0, .slice a y.ks.length c] y ∧ y.ls = [] ∧ Below w.heap.size w w'
end Go.Proofs.YtigliglmejkakaaGreat

namespace Go.Proofs.YtigliglmejkakaaGreat
open Go.RowKit
set_option linter.unusedVariables false

def SeeOfB {S : Type} (sz : S → Nat) (L : Nat) (g : FuncId) (fs : Array Value) (f : S → Tp → S × Bool × Bool) (I : S → (Nat → Prop) → World → Prop) (o0 : Nat → Prop) (w0 : World) (n : Nat) : Prop :=
  ∀ (w : World) (own : Nat → Prop) (s : S) (vs : List Value) (t : Tp), I s own w → Ev o0 w0 own w → TAt w0 (Free o0 w0) n vs t → sz s < L →
    Calls Tryz.prog g (fs ++ #[.agg vs.toArray]) w fun e w' => e = .returned (.tuple #[.bool (f s t).2.1, .bool (f s t).2.2]) ∧ ∃ own', I (f s t).1 own' w' ∧ Ev own w own' w'
def WalkOfB {S : Type} (sz : S → Nat) (L : Nat) (g : FuncId) (fs : Array Value) (f : S → Tp → S × Bool × Bool) (I : S → (Nat → Prop) → World → Prop) (o0 : Nat → Prop) (w0 : World) (n : Nat) : Prop :=
  ∀ (w : World) (own : Nat → Prop) (s : S) (vs : List Value) (t : Tp), I s own w → Ev o0 w0 own w → TAt w0 (Free o0 w0) n vs t → sz s + t.cnt ≤ L →
    Calls Tryz.prog 30 #[.agg vs.toArray, .func (.func g) fs #[]] w fun e w' => e = .returned (.bool (Tp.walk f t s).2) ∧ ∃ own', I (Tp.walk f t s).1 own' w' ∧ Ev own w own' w'
theorem Tp.cnt_ksB (t : Tp) : t.cnt = Tp.cntL t.ks + 1 := by cases t; rw [Tp.cnt]; rfl
theorem Tp.cntL_dropB {l : List Tp} {k : Nat} {x : Tp} (hx : l[k]? = some x) : Tp.cntL (l.drop k) = x.cnt + Tp.cntL (l.drop (k + 1)) := by
  obtain ⟨h1, e1⟩ := List.getElem?_eq_some_iff.1 hx
  rw [List.drop_eq_getElem_cons h1, e1, Tp.cntL]
mutual
theorem Tp.walk_sz {S : Type} {sz : S → Nat} {f : S → Tp → S × Bool × Bool} (hf : ∀ s t, sz (f s t).1 ≤ sz s + 1) : ∀ (t : Tp) (s : S), sz (Tp.walk f t s).1 ≤ sz s + t.cnt
  | .mk k n ks, s => by
    rw [Tp.walk_mk, Tp.cnt]
    have h1 := hf s (.mk k n ks)
    cases (f s (.mk k n ks)).2.2 && (f s (.mk k n ks)).2.1 with
    | true => have h2 := Tp.walkL_sz hf ks (f s (.mk k n ks)).1; simp only [cond_true]; omega
    | false => simp only [cond_false]; omega
theorem Tp.walkL_sz {S : Type} {sz : S → Nat} {f : S → Tp → S × Bool × Bool} (hf : ∀ s t, sz (f s t).1 ≤ sz s + 1) : ∀ (l : List Tp) (s : S), sz (Tp.walkL f l s).1 ≤ sz s + Tp.cntL l
  | [], s => by rw [Tp.walkL_nil]; exact Nat.le_add_right _ _
  | x :: r, s => by
    rw [Tp.walkL_cons, Tp.cntL]
    have h1 := Tp.walk_sz hf x s
    cases (Tp.walk f x s).2 with
    | true => have h2 := Tp.walkL_sz hf r (Tp.walk f x s).1; simp only [cond_true]; omega
    | false => simp only [cond_false]; omega
end

set_option maxHeartbeats 2000000 in
set_option maxRecDepth 100000 in
theorem walk_stepB {S : Type} (sz : S → Nat) (L : Nat) (g : FuncId) (fs : Array Value) (f : S → Tp → S × Bool × Bool) (I : S → (Nat → Prop) → World → Prop) (o0 : Nat → Prop) (w0 : World) (n : Nat) (hf : ∀ s t, sz (f s t).1 ≤ sz s + 1) (st : Steady I) (en : Enters g) (see : SeeOfB sz L g fs f I o0 w0 (n + 1)) (ih : WalkOfB sz L g fs f I o0 w0 n) : WalkOfB sz L g fs f I o0 w0 (n + 1) := by
  intro w own s vs t hI hE hT hc
  have hz1 : sz (f s t).1 + Tp.cntL t.ks ≤ L := by have := hf s t; rw [Tp.cnt_ksB t] at hc; omega
  have hz0 : sz s < L := by rw [Tp.cnt_ksB t] at hc; omega
  clear hc
  unfold Enters at en
  obtain ⟨v, rfl, hk, hn, hL⟩ := hT.open_
  have hwalk : Hid (Tp.walk f t s = bif (f s t).2.2 && (f s t).2.1 then Tp.walkL f t.ks (f s t).1 else ((f s t).1, (f s t).2.2)) := by
    obtain ⟨k, m, ks⟩ := t
    exact Tp.walk_mk f k m ks s
  have HS : Hid (∀ o, Calls Tryz.prog g (fs ++ #[.agg #[.int .i64 t.k, .int .i64 t.n, v]]) (w.alloc o) fun e w' => e = .returned (.tuple #[.bool (f s t).2.1, .bool (f s t).2.2]) ∧ ∃ own', I (f s t).1 own' w' ∧ Ev own (w.alloc o) own' w') :=
    fun o => see (w.alloc o) own s _ t (st.stays _ _ _ _ hI (bl_alloc (Below.refl _ _) o)) (hE.alloc o) hT hz0
  have hown : Hid (¬ own w.heap.size) := fun h => by have := st.lt _ _ _ _ hI h; omega
  have HE : Hid (Ev o0 w0 own w) := hE
  clear see hT hI hE hk hn hz0
  have HZ1 : Hid (sz (f s t).1 + Tp.cntL t.ks ≤ L) := hz1
  clear hz1
  have HF : Hid (∀ s t, sz (f s t).1 ≤ sz s + 1) := hf
  clear hf
  generalize hq : f s t = q at HS hwalk HZ1
  obtain ⟨s1, into, on⟩ := q
  clear hq
  simp only at HS hwalk HZ1
  obtain ⟨a1, c1, e1, hx⟩ := TAtL.form hL
  subst e1
  unfold maxLen at hx
  have go : ∀ (b : Bool) (w' : World) (own' : Nat → Prop) (s' : S), Tp.walk f t s = (s', b) → I s' own' w' → Ev own w own' w' → (Ending.returned (.bool b) = .returned (.bool (Tp.walk f t s).2) ∧ ∃ own', I (Tp.walk f t s).1 own' w' ∧ Ev own w own' w') := by
    intro b w' own' s' e h1 h2
    rw [e]
    exact ⟨rfl, _, h1, h2⟩
  have GO : Hid _ := go
  clear go
  cases on with
  | false =>
    simp only [Bool.false_and, cond_false] at hwalk
    go_enter Tryz.func30, Tryz.ntmps30
    go_wp2_with (refine (HS.out _).mono ?_; rintro e w2 ⟨rfl, own2, hI2, hE2⟩)
    go_ret
    exact GO.out _ _ _ _ hwalk.out hI2 (((Ev.refl _ _).alloc _).trans hE2)
  | true =>
    cases into with
    | false =>
      simp only [Bool.and_false, cond_false] at hwalk
      go_enter Tryz.func30, Tryz.ntmps30
      go_wp2_with (refine (HS.out _).mono ?_; rintro e w2 ⟨rfl, own2, hI2, hE2⟩)
      go_ret
      exact GO.out _ _ _ _ hwalk.out hI2 (((Ev.refl _ _).alloc _).trans hE2)
    | true =>
      simp only [Bool.and_self, cond_true] at hwalk
      go_enter Tryz.func30, Tryz.ntmps30
      go_wp2_with (refine (HS.out _).mono ?_; rintro e w2 ⟨rfl, own2, hI2, hE2⟩; have hc2 := (hE2.cell (p := ⟨w.heap.size, 2, none⟩) (show w.heap.size < _ by simp) hown.out).trans (show _ = some (.slice a1 t.ks.length c1) by simp [go_sem]))
      have hE3 : Ev own w own2 w2 := ((Ev.refl _ _).alloc _).trans hE2
      clear hE2 hc2 HS
      go_loopw [25] (fun v wr => ∃ (k : Nat) (s' : S) (own' : Nat → Prop), v = .int .i64 k ∧ k ≤ t.ks.length ∧ Hid (Tp.walk f t s = Tp.walkL f (t.ks.drop k) s') ∧ Hid (sz s' + Tp.cntL (t.ks.drop k) ≤ L) ∧ I s' own' wr ∧ Ev own w own' wr) (fun v _ => t.ks.length - (intOf v).toNat)
      case atStart => exact ⟨0, s1, own2, rfl, Nat.zero_le _, hwalk, HZ1, hI2, hE3⟩
      case round =>
        obtain ⟨k, s', own', rfl, hkl, hH, HZ, hI', hE'⟩ := hrel
        clear hI2 hE3 hwalk HZ1
        by_cases hlt : k < t.ks.length
        · obtain ⟨b, o, rfl⟩ : ∃ b o, a1 = some ⟨b, o, none⟩ := by
            rcases hL with ⟨b, o, c, hv, -⟩ | ⟨h0, -⟩
            · injection hv with e1 e2 e3; exact ⟨b, o, e1⟩
            · rw [h0] at hlt; exact absurd hlt (Nat.not_lt_zero _)
          obtain ⟨x, hxk⟩ : ∃ x, t.ks[k]? = some x := ⟨_, List.getElem?_eq_getElem hlt⟩
          obtain ⟨vx, tx, x0, x1, x2, hF, hb⟩ := hL.elem hxk
          have hEE : Ev o0 w0 own' wr := HE.out.trans hE'
          have y0 := hEE.keeps _ _ _ hF x0
          have y1 := hEE.keeps _ _ _ hF x1
          have y2 := hEE.keeps _ _ _ hF x2
          have HQ : Hid (∀ oo, Calls Tryz.prog 30 #[.agg #[.int .i64 x.k, .int .i64 x.n, vx], .func (.func g) fs #[]] (wr.alloc oo) fun e w' => e = .returned (.bool (Tp.walk f x s').2) ∧ ∃ own'', I (Tp.walk f x s').1 own'' w' ∧ Ev own' (wr.alloc oo) own'' w') :=
            fun oo => ih (wr.alloc oo) own' s' _ x (st.stays _ _ _ _ hI' (bl_alloc (Below.refl _ _) oo)) (hEE.alloc oo) tx (by have h := HZ.out; rw [Tp.cntL_dropB hxk] at h; omega)
          have HY : Hid (sz (Tp.walk f x s').1 + Tp.cntL (t.ks.drop (k + 1)) ≤ L) := by show _ ≤ _; have h := HZ.out; rw [Tp.cntL_dropB hxk] at h; have := Tp.walk_sz HF.out x s'; omega
          have HX : Hid (Tp.walk f t s = bif (Tp.walk f x s').2 then Tp.walkL f (t.ks.drop (k + 1)) (Tp.walk f x s').1 else ((Tp.walk f x s').1, false)) := hH.out.trans (Tp.walkL_at hxk s')
          obtain ⟨ax, cx, ex⟩ := tx.form
          simp only [List.cons.injEq, and_true, true_and] at ex
          subst ex
          clear HZ hL ih hH hI' hEE hxk tx x0 x1 x2 hF hb
          generalize Tp.walk f x s' = q at HQ HX HY
          obtain ⟨s2, on⟩ := q
          simp only at HQ HX HY
          cases on with
          | true =>
            simp only [cond_true] at HX
            go_wp2_with (go_at_call 30; refine (HQ.out _).mono ?_; rintro e w3 ⟨rfl, own3, hI3, hE3⟩)
            go_roundw
            case rel => exact ⟨k + 1, s2, own3, by go_num, by omega, HX, HY, hI3, (hE'.alloc _).trans hE3⟩
            case measure => simp [intOf]; omega
          | false =>
            simp only [cond_false] at HX
            go_wp2_with (go_at_call 30; refine (HQ.out _).mono ?_; rintro e w3 ⟨rfl, own3, hI3, hE3⟩)
            go_ret
            exact GO.out _ _ _ _ HX.out hI3 ((hE'.alloc _).trans hE3)
        · have HX : Hid (Tp.walk f t s = (s', true)) := by
            show _ = _
            rw [hH.out, List.drop_eq_nil_of_le (by omega)]; exact Tp.walkL_nil f s'
          clear hH ih hL
          go_wp2
          go_ret
          exact GO.out _ _ _ _ HX.out hI' hE'

theorem walk_anyB {S : Type} (sz : S → Nat) (L : Nat) (g : FuncId) (fs : Array Value) (f : S → Tp → S × Bool × Bool) (I : S → (Nat → Prop) → World → Prop) (o0 : Nat → Prop) (w0 : World) (hf : ∀ s t, sz (f s t).1 ≤ sz s + 1) (st : Steady I) (en : Enters g) (see : ∀ n, SeeOfB sz L g fs f I o0 w0 n) : ∀ n, WalkOfB sz L g fs f I o0 w0 n
  | 0 => fun w own s vs t _ _ hT _ => hT.elim
  | n + 1 => walk_stepB sz L g fs f I o0 w0 n hf st en (see (n + 1)) (walk_anyB sz L g fs f I o0 w0 hf st en see n)
end Go.Proofs.YtigliglmejkakaaGreat

namespace Go.Proofs.YtigliglmejkakaaGreat
open Go.RowKit
set_option linter.unusedVariables false
set_option linter.unusedSimpArgs false

theorem int_key : Maps.Keyed Tryz.prog 3 := Maps.int_keyed Tryz.underlying3
theorem zero_unit (w : World) : (zeroValue 107).run Tryz.prog w = .ok (.agg #[]) w := by kernel_rfl
def Told (w : World) (C n : Nat) (s : List Int) : Prop := ∃ D : DataW Unit, w.ownsMap Tryz.prog 3 unitElem C n D ∧ Maps.IsMap D ∧ ∀ x : Int, Maps.has D (.int .i64 x) = decide (x ∈ s)
/-- The gatherer in block M, its map in block C. -/
structure Gth (M C : Nat) (kind : Int) (lv : Value) (s : List Int) (w : World) : Prop where
  b : Arr w M 160 [.int .i64 kind, lv, .map (some C)]
  own : w.ownsRow (M + 1) 3 1 lv s.length (s.map (.int .i64))
  told : Told w C s.length s
  lt : C < M
theorem Told.stays {w w' : World} {C n : Nat} {s : List Int} (h : Told w C n s) (hb : Below w.heap.size w w') : Told w' C n s := by
  obtain ⟨D, h1, h2, h3⟩ := h
  exact ⟨D, h1.kept (row := none) ⟨hb.os, hb.tape, hb.output, hb.size, fun b hb2 _ => hb.block b hb2⟩ (by simp), h2, h3⟩
theorem Gth.stays {M C : Nat} {kind : Int} {lv : Value} {s : List Int} {w w' : World} (h : Gth M C kind lv s w) (hb : Below w.heap.size w w') : Gth M C kind lv s w' := ⟨h.b.stays hb, own_stays h.own hb, h.told.stays hb, h.lt⟩
theorem keylit (x : Int) : WideAt.IsKeyLit (.int .i64 x) := by simp [WideAt.IsKeyLit]
/-- Is it there? -/
theorem Told.look {w : World} {C n : Nat} {s : List Int} (h : Told w C n s) (x : Int) (hx : R64 x) : (Instr.lookup 106 (.map (some C)) (.int .i64 x) true).run Tryz.prog w = .ok (.tuple #[.agg #[], .bool (decide (x ∈ s))]) w := by
  obtain ⟨D, h1, h2, h3⟩ := h
  have hw : (Lit.int .i64 x).wf = true := by obtain ⟨a, b⟩ := hx; simp [Lit.wf, IntKind.min, IntKind.max, IntKind.signed, IntKind.bits]; omega
  obtain ⟨v, ps, hr, hv⟩ := h1.look_ok int_key Tryz.underlying106 (zero_unit w) unitElem_mk (Maps.keyOf_int_mk Tryz.underlying3 hw)
  obtain ⟨rfl, -⟩ := unitElem_inv hv
  rw [hr, h3]
theorem Told.put {w : World} {C n : Nat} {s : List Int} (h : Told w C n s) (x : Int) (hx : R64 x) (hn : n < maxLen) : ∃ w', (Instr.mapUpdate 106 (.map (some C)) (.int .i64 x) (.agg #[])).run Tryz.prog w = .ok () w' ∧ Told w' C (n + 1) (s ++ [x]) ∧ w.grownBy w' (some C) := by
  obtain ⟨D, h1, h2, h3⟩ := h
  have hw : (Lit.int .i64 x).wf = true := by obtain ⟨a, b⟩ := hx; simp [Lit.wf, IntKind.min, IntKind.max, IntKind.signed, IntKind.bits]; omega
  obtain ⟨w', hr, h4, h5⟩ := h1.store int_key Tryz.underlying106 hn (Maps.keyOf_int_mk Tryz.underlying3 hw) unitElem_mk
  refine ⟨w', hr, ⟨_, h4, h4.isMap, fun y => ?_⟩, h5.grown⟩
  by_cases e : y = x
  · subst e
    rw [Maps.has_put_same h2 (keylit y)]
    simp
  · rw [Maps.has_put_other (fun h => e (by injection h)), h3]
    simp [e]
theorem told_new (w : World) : Told (w.alloc (.map #[] 0)) w.heap.size 0 [] := ⟨_, World.ownsMap_made w _ _ _, ⟨_, rfl⟩, fun x => by simp [Maps.has]⟩
end Go.Proofs.YtigliglmejkakaaGreat
