/- Target types that are being made: a node whose Kids are appended one by one. Schemes: plain mathematics. What stands in a type: plain mathematics. -/
import Derived.Test.YtigliglmejkakaaQae
import Derived.Test.YtigliglmejkakaaQag
import Derived.Test.YtigliglmejkakaaQaa
namespace Go.Proofs.Ytigliglmejkakaa
open Go.RowKit
set_option linter.unusedVariables false
set_option linter.unusedSimpArgs false

theorem info_tt : (Try.prog.info? 30).map (fun i => (i.zero, i.size, i.bytes)) = some (some (.agg #[.int .i64 0, .int .i64 0, .slice none 0 0, .slice none 0 0]), 4, 64) := by kernel_rfl
/-- The node's box OB and the row of its Kids, which lies in blocks from base on. -/
structure Kd (OB base : Nat) (kk nn : Int) (ys : List Tgt.Tt) (N : Nat) (ov : Value) (xs : List Value) (wr : World) : Prop where
  lo : OB < base
  le : base ≤ wr.heap.size
  ob : Arr wr OB 30 [.int .i64 kk, .int .i64 nn, .slice none 0 0, ov]
  own : wr.ownsRow base 30 4 ov ys.length xs
  el : ∀ (i : Nat) y, ys[i]? = some y → ∃ a' c' a c, Tgt.TAt wr (fun b => base ≤ b ∧ ov.ownBlock ≠ some b) N [.int .i64 y.k, .int .i64 y.n, .slice a' y.ls.length c', .slice a y.ks.length c] y ∧ Seg xs (i * 4) [.int .i64 y.k, .int .i64 y.n, .slice a' y.ls.length c', .slice a y.ks.length c]
theorem Kd.stays {OB base : Nat} {kk nn : Int} {ys : List Tgt.Tt} {N : Nat} {ov : Value} {xs : List Value} {wr wz : World} (h : Kd OB base kk nn ys N ov xs wr) (hb : Below wr.heap.size wr wz) : Kd OB base kk nn ys N ov xs wz :=
  ⟨h.lo, Nat.le_trans h.le hb.size, h.ob.stays hb, own_stays h.own hb, fun i y hy => by obtain ⟨a', c', a, c, h1, h2⟩ := h.el i y hy; exact ⟨a', c', a, c, h1.below hb, h2⟩⟩
theorem Kd.start {w : World} (kk nn : Int) {cs : List Value} (hcs : cs = [.int .i64 kk, .int .i64 nn, .slice none 0 0, .slice none 0 0]) : Kd w.heap.size (w.heap.size + 1) kk nn [] 0 (.slice none 0 0) [] (w.alloc (.cells cs.toArray 30)) := by
  subst hcs
  exact ⟨Nat.lt_succ_self _, by rw [size_alloc]; exact Nat.le_refl _, ⟨heap_alloc_at _ _⟩, World.ownsRow_nil _ _ _ _, fun i y hy => by simp at hy⟩
theorem Kd.row {OB base : Nat} {kk nn : Int} {ys : List Tgt.Tt} {N : Nat} {ov : Value} {xs : List Value} {wr : World} (h : Kd OB base kk nn ys N ov xs wr) : ∀ b, ov.ownBlock = some b → base ≤ b := fun b hb => (h.own.lt b hb).1
theorem Tgt_both {w : World} {K : Nat → Prop} {n : Nat} {vs : List Value} {t : Tgt.Tt} (h : Tgt.TAt w K n vs t) : Tgt.TAt w (fun b => K b ∧ b < w.heap.size) n vs t := h.old
/-- One more. -/
theorem Kd.app {OB base : Nat} {kk nn : Int} {ys : List Tgt.Tt} {N : Nat} {ov v' : Value} {xs : List Value} {w1 w2 : World} (h : Kd OB base kk nn ys N ov xs w1) {y : Tgt.Tt} {n' : Nat} {a' a : Option Addr} {c' c : Nat}
    (hT : Tgt.TAt w1 (fun b => base ≤ b ∧ ov.ownBlock ≠ some b) n' [.int .i64 y.k, .int .i64 y.n, .slice a' y.ls.length c', .slice a y.ks.length c] y)
    (hown : w2.ownsRow base 30 4 v' (ys.length + 1) (xs ++ [.int .i64 y.k, .int .i64 y.n, .slice a' y.ls.length c', .slice a y.ks.length c])) (hg : w1.grownBy w2 ov.ownBlock) (hf : Fresh w1 ov v') :
    Kd OB base kk nn (ys ++ [y]) (max N n') v' (xs ++ [.int .i64 y.k, .int .i64 y.n, .slice a' y.ls.length c', .slice a y.ks.length c]) (w2.setCell ⟨OB, 3, none⟩ v') := by
  have hlo := h.lo
  have hrow := h.row
  have hrow' : ∀ b, v'.ownBlock = some b → base ≤ b := fun b hb => (hown.lt b hb).1
  have mv : ∀ {n0 : Nat} {vs : List Value} {z : Tgt.Tt}, Tgt.TAt w1 (fun b => base ≤ b ∧ ov.ownBlock ≠ some b) n0 vs z → Tgt.TAt (w2.setCell ⟨OB, 3, none⟩ v') (fun b => base ≤ b ∧ v'.ownBlock ≠ some b) n0 vs z := by
    intro n0 vs z hz
    refine hz.old.move (fun b o u hb hu => ?_) (fun b hb => ⟨hb.1.1, fun e => ?_⟩)
    · have hb1 := hb.1.1
      rw [World.cell?_of_block (w := w2) (Below.heap_setCell _ _ _ _ (by show b ≠ OB; omega)), World.cell?_of_block (w := w1) (hg.block b hb.2 (fun e => hb.1.2 e.symm))]
      exact hu
    · rcases hf with h1 | h1
      · exact hb.1.2 (by rw [← h1]; exact e)
      · have := h1 b e; have := hb.2; omega
  have hxl : xs.length = ys.length * 4 := h.own.1
  refine ⟨h.lo, by have := hg.size; have := h.le; simp [World.setCell]; omega, (h.ob.grown hg (fun e => by have := hrow _ e.symm; omega)).set 3 _, ?_, fun i z hz => ?_⟩
  · rw [List.length_append]
    exact hown.kept (row := some OB) ⟨rfl, rfl, rfl, by simp [World.setCell], fun b _ hb => Below.heap_setCell _ _ _ _ (fun e => hb (by simp [e]))⟩ (Or.inr (fun e => by have := hrow' _ e; omega))
  · by_cases he : i = ys.length
    · subst he
      rw [List.getElem?_append_right (Nat.le_refl _)] at hz
      simp at hz
      subst hz
      refine ⟨a', c', a, c, (mv hT).le (Nat.le_max_right _ _), fun j u hu => ?_⟩
      rw [List.getElem?_append_right (by omega), hxl]
      rw [show ys.length * 4 + j - ys.length * 4 = j by omega]
      exact hu
    · have hi : i < ys.length := by
        have := (List.getElem?_eq_some_iff.1 hz).1
        rw [List.length_append] at this
        simp at this
        omega
      rw [List.getElem?_append_left hi] at hz
      obtain ⟨a1, c1, a2, c2, g1, g2⟩ := h.el i z hz
      refine ⟨a1, c1, a2, c2, (mv g1).le (Nat.le_max_left _ _), fun j u hu => ?_⟩
      have hj := (List.getElem?_eq_some_iff.1 hu).1
      simp only [List.length_cons, List.length_nil] at hj
      rw [List.getElem?_append_left (by omega)]
      exact g2 j u hu
/-- Other boxes stay. -/
theorem Kd.other {OB base : Nat} {kk nn : Int} {ys : List Tgt.Tt} {N : Nat} {ov v' : Value} {xs : List Value} {w1 w2 : World} (h : Kd OB base kk nn ys N ov xs w1) (hg : w1.grownBy w2 ov.ownBlock) {b : Nat} {T : TypeId} {cur : List Value} (hA : Arr w1 b T cur) (hb : b < base) (hne : b ≠ OB) : Arr (w2.setCell ⟨OB, 3, none⟩ v') b T cur :=
  (hA.grown hg (fun e => by have := h.row _ e.symm; omega)).other hne _
theorem Kd.mid {OB base : Nat} {kk nn : Int} {ys : List Tgt.Tt} {N : Nat} {ov : Value} {xs : List Value} {w1 w2 : World} (h : Kd OB base kk nn ys N ov xs w1) (hg : w1.grownBy w2 ov.ownBlock) : Arr w2 OB 30 [.int .i64 kk, .int .i64 nn, .slice none 0 0, ov] ∧ ∀ {b : Nat} {T : TypeId} {cur : List Value}, Arr w1 b T cur → b < base → Arr w2 b T cur :=
  ⟨h.ob.grown hg (fun e => by have := h.row _ e.symm; have := h.lo; omega), fun hA hb => hA.grown hg (fun e => by have := h.row _ e.symm; omega)⟩
theorem Kd.below {OB base B : Nat} {kk nn : Int} {ys : List Tgt.Tt} {N : Nat} {ov v' : Value} {xs : List Value} {w w1 w2 : World} (h : Kd OB base kk nn ys N ov xs w1) (hg : w1.grownBy w2 ov.ownBlock) (hB : B ≤ OB) (hb : Below B w w1) : Below B w (w2.setCell ⟨OB, 3, none⟩ v') :=
  ((hb.grown hg (by have := h.le; have := h.lo; omega) (fun b e => by have := h.row _ e; have := h.lo; omega))).setCell (p := ⟨OB, 3, none⟩) hB _
theorem Kd.fin {OB base : Nat} {kk nn : Int} {ys : List Tgt.Tt} {N : Nat} {ov : Value} {xs : List Value} {wr W : World} (h : Kd OB base kk nn ys N ov xs wr) (hk : Tgt.Keeps (fun b => base ≤ b) wr W) (h1 : Tgt.R64 kk) (h2 : Tgt.R64 nn) (hl : ys.length ≤ 1099511627776) : Tgt.TAt W (fun b => base ≤ b) (N + 1) [.int .i64 kk, .int .i64 nn, .slice none 0 0, ov] (.mk kk nn [] ys) := by
  refine ⟨.slice none 0 0, ov, rfl, h1, h2, .inr ⟨rfl, none, 0, rfl⟩, ?_⟩
  show Tgt.TAtL W _ N ov ys
  rcases h.own.2 with ⟨rfl, h0⟩ | ⟨g, cap, cur, rfl, hb, hh, hle, hcm, hsz, htk⟩
  · exact .inr ⟨List.eq_nil_of_length_eq_zero h0, none, 0, rfl⟩
  · refine .inl ⟨g, 0, cap, rfl, hb, hle, by unfold maxLen; omega, fun i y hy => ?_⟩
    obtain ⟨a', c', a, c, g1, g2⟩ := h.el i y hy
    refine ⟨_, fun j u hu => hk g _ _ hb ?_, g1.move (fun b o u hb hu => hk b o u hb.1 hu) (fun b hb => hb.1)⟩
    have hq := g2 j u hu
    rw [← htk, List.getElem?_take] at hq
    split at hq
    · rw [cell_at hh, Nat.zero_add]
      rw [Array.getElem?_toList] at hq
      exact hq
    · cases hq
theorem Kd.kp {OB base : Nat} {kk nn : Int} {ys : List Tgt.Tt} {N : Nat} {ov : Value} {xs : List Value} {w1 w3 : World} (h : Kd OB base kk nn ys N ov xs w1) {n : Nat} {vs : List Value} {y : Tgt.Tt} (hT : Tgt.TAt w3 (fun b => w1.heap.size ≤ b) n vs y) : Tgt.TAt w3 (fun b => base ≤ b ∧ ov.ownBlock ≠ some b) n vs y :=
  hT.move (Tgt.Keeps.refl _ _) (fun b hb => ⟨Nat.le_trans h.le hb, fun e => by have := (h.own.lt b e).2; omega⟩)
theorem Kd.app4 {OB base : Nat} {kk nn : Int} {ys : List Tgt.Tt} {N : Nat} {ov v' : Value} {xs : List Value} {w1 w2 : World} (h : Kd OB base kk nn ys N ov xs w1) {y : Tgt.Tt} (hls : y.ls = []) {n' : Nat} {a : Option Addr} {c : Nat}
    (hT : Tgt.TAt w1 (fun b => base ≤ b ∧ ov.ownBlock ≠ some b) n' [.int .i64 y.k, .int .i64 y.n, .slice none 0 0, .slice a y.ks.length c] y)
    (hown : w2.ownsRow base 30 4 v' (ys.length + 1) (xs ++ [.int .i64 y.k, .int .i64 y.n, .slice none 0 0, .slice a y.ks.length c])) (hg : w1.grownBy w2 ov.ownBlock) (hf : Fresh w1 ov v') :
    Kd OB base kk nn (ys ++ [y]) (max N n') v' (xs ++ [.int .i64 y.k, .int .i64 y.n, .slice none 0 0, .slice a y.ks.length c]) (w2.setCell ⟨OB, 3, none⟩ v') := by
  have hl : y.ls.length = 0 := by rw [hls]; rfl
  have := h.app (y := y) (a' := none) (c' := 0) (by rw [hl]; exact hT) (by rw [hl]; exact hown) hg hf
  rw [hl] at this
  exact this
theorem Kd.bg {OB base B : Nat} {kk nn : Int} {ys : List Tgt.Tt} {N : Nat} {ov : Value} {xs : List Value} {w w1 w2 : World} (h : Kd OB base kk nn ys N ov xs w1) (hg : w1.grownBy w2 ov.ownBlock) (hB : B ≤ base) (hb : Below B w w1) : Below B w w2 :=
  hb.grown hg (by have := h.le; omega) (fun b e => by have := h.row _ e; omega)
theorem addr_add14 (b o k : Nat) : (⟨b, o, none⟩ : Addr).add k = ⟨b, o + k, none⟩ := by simp [Addr.add]
end Go.Proofs.Ytigliglmejkakaa

namespace Go.Proofs.Ytigliglmejkakaa
open Go.RowKit
set_option linter.unusedVariables false
set_option linter.unusedSimpArgs false

theorem hid {p : Prop} (h : p) : Hid p := h
/-- Do the numbers rise by one from i on? -/
def Tp.ups : List Int → Nat → Bool
  | [], _ => true
  | x :: r, i => decide (x = i) && Tp.ups r (i + 1)
/-- Is the scheme right? -/
def Tp.rightS (g : Int) (t : Tp) : Bool := t.right && (Tp.ups (Tp.found 8 t []) 0 && decide (((Tp.found 8 t []).length : Int) = g))
theorem Tp.ups_at {l : List Int} {k : Nat} {x : Int} (hx : l[k]? = some x) : Tp.ups (l.drop k) k = (decide (x = k) && Tp.ups (l.drop (k + 1)) (k + 1)) := by
  obtain ⟨h1, e1⟩ := List.getElem?_eq_some_iff.1 hx
  rw [List.drop_eq_getElem_cons h1, e1, Tp.ups]
mutual
/-- Each node's kind and number made anew. -/
def Tp.ren (f : Int → Int → Int × Int) : Tp → Tp
  | .mk k n ks => .mk (f k n).1 (f k n).2 (Tp.renL f ks)
def Tp.renL (f : Int → Int → Int × Int) : List Tp → List Tp
  | [] => []
  | x :: r => Tp.ren f x :: Tp.renL f r
end
theorem Tp.renL_map (f : Int → Int → Int × Int) : ∀ l : List Tp, Tp.renL f l = l.map (Tp.ren f)
  | [] => by rw [Tp.renL]; rfl
  | x :: r => by rw [Tp.renL, Tp.renL_map f r]; rfl
theorem Tp.ren_eq (f : Int → Int → Int × Int) (t : Tp) : Tp.ren f t = .mk (f t.k t.n).1 (f t.k t.n).2 (t.ks.map (Tp.ren f)) := by
  obtain ⟨k, n, ks⟩ := t
  rw [Tp.ren, Tp.renL_map]; rfl
mutual
theorem Tp.cnt_ren (f : Int → Int → Int × Int) : ∀ t : Tp, (Tp.ren f t).cnt = t.cnt
  | .mk k n ks => by rw [Tp.ren, Tp.cnt, Tp.cnt, Tp.cntL_ren f ks]
theorem Tp.cntL_ren (f : Int → Int → Int × Int) : ∀ l : List Tp, Tp.cntL (Tp.renL f l) = Tp.cntL l
  | [] => by rw [Tp.renL]
  | x :: r => by rw [Tp.renL, Tp.cntL, Tp.cntL, Tp.cnt_ren f x, Tp.cntL_ren f r]
end
end Go.Proofs.Ytigliglmejkakaa

namespace Go.Proofs.Ytigliglmejkakaa
open Go.RowKit
set_option linter.unusedVariables false
set_option linter.unusedSimpArgs false

mutual
/-- The nodes of a kind, from the left. -/
def Tp.all (kind : Int) : Tp → List Int
  | .mk k n ks => (if k = kind then [n] else []) ++ Tp.allL kind ks
def Tp.allL (kind : Int) : List Tp → List Int
  | [] => []
  | x :: r => Tp.all kind x ++ Tp.allL kind r
end
/-- A list without what comes again. -/
def dd (l : List Int) (xs : List Int) : List Int := xs.foldl Tp.ins l
mutual
theorem Tp.found_dd (kind : Int) : ∀ (t : Tp) (l : List Int), Tp.found kind t l = dd l (Tp.all kind t)
  | .mk k n ks, l => by
    rw [Tp.found_mk, Tp.all, Tp.foundL_dd kind ks]
    by_cases h : k = kind
    · rw [if_pos h, if_pos h]; rfl
    · rw [if_neg h, if_neg h]; rfl
theorem Tp.foundL_dd (kind : Int) : ∀ (ts : List Tp) (l : List Int), Tp.foundL kind ts l = dd l (Tp.allL kind ts)
  | [], l => by rw [Tp.foundL_nil, Tp.allL]; rfl
  | x :: r, l => by rw [Tp.foundL_cons, Tp.allL, Tp.found_dd kind x, Tp.foundL_dd kind r]; unfold dd; rw [List.foldl_append]
end
theorem mem_ins {l : List Int} {n x : Int} : x ∈ Tp.ins l n ↔ x ∈ l ∨ x = n := by
  unfold Tp.ins
  by_cases h : n ∈ l
  · rw [if_pos h]
    constructor
    · exact .inl
    · rintro (h1 | rfl)
      · exact h1
      · exact h
  · rw [if_neg h]; simp
theorem mem_dd : ∀ {xs l : List Int} {x : Int}, x ∈ dd l xs ↔ x ∈ l ∨ x ∈ xs
  | [], l, x => by simp [dd]
  | y :: r, l, x => by
    show x ∈ dd (Tp.ins l y) r ↔ _
    rw [mem_dd, mem_ins]
    simp [or_assoc]
theorem dd_nodup : ∀ (xs l : List Int), l.Nodup → (dd l xs).Nodup
  | [], l, h => h
  | y :: r, l, h => by
    show (dd (Tp.ins l y) r).Nodup
    refine dd_nodup r _ ?_
    unfold Tp.ins
    by_cases hm : y ∈ l
    · rw [if_pos hm]; exact h
    · rw [if_neg hm]
      rw [List.nodup_append]
      refine ⟨h, by simp, fun a ha b hb e => ?_⟩
      rw [List.mem_singleton.1 hb] at e
      exact hm (e ▸ ha)
theorem dd_len : ∀ (xs l : List Int), (dd l xs).length ≤ l.length + xs.length
  | [], l => by simp [dd]
  | y :: r, l => by
    have h := dd_len r (Tp.ins l y)
    have h2 : (Tp.ins l y).length ≤ l.length + 1 := by
      unfold Tp.ins
      split
      · omega
      · simp
    show (dd (Tp.ins l y) r).length ≤ _
    simp only [List.length_cons]
    omega
mutual
theorem Tp.all_len (kind : Int) : ∀ t : Tp, (Tp.all kind t).length ≤ t.cnt
  | .mk k n ks => by
    rw [Tp.all, Tp.cnt, List.length_append]
    have := Tp.allL_len kind ks
    split
    · simp; omega
    · simp; omega
theorem Tp.allL_len (kind : Int) : ∀ l : List Tp, (Tp.allL kind l).length ≤ Tp.cntL l
  | [] => by rw [Tp.allL]; simp
  | x :: r => by
    rw [Tp.allL, Tp.cntL, List.length_append]
    have := Tp.all_len kind x
    have := Tp.allL_len kind r
    omega
end
theorem Tp.found_len (kind : Int) (t : Tp) : (Tp.found kind t []).length ≤ t.cnt := by
  rw [Tp.found_dd]
  have h1 := dd_len (Tp.all kind t) []
  have h2 := Tp.all_len kind t
  simp only [List.length_nil] at h1
  omega
theorem Tp.found_nodup (kind : Int) (t : Tp) : (Tp.found kind t []).Nodup := by rw [Tp.found_dd]; exact dd_nodup _ _ (by simp)
theorem Tp.mem_fnd {kind : Int} {t : Tp} {x : Int} : x ∈ Tp.found kind t [] ↔ x ∈ Tp.all kind t := by rw [Tp.found_dd, mem_dd]; simp
theorem Tp.mem_allL {kind : Int} {x : Int} : ∀ {l : List Tp}, x ∈ Tp.allL kind l ↔ ∃ t ∈ l, x ∈ Tp.all kind t
  | [] => by rw [Tp.allL]; simp
  | y :: r => by rw [Tp.allL, List.mem_append, Tp.mem_allL]; simp
theorem Tp.all_eq (kind : Int) (t : Tp) : Tp.all kind t = (if t.k = kind then [t.n] else []) ++ Tp.allL kind t.ks := by
  obtain ⟨k, n, ks⟩ := t
  rw [Tp.all]; rfl
theorem TAt.all64 {w : World} {K : Nat → Prop} (kind : Int) : ∀ {n : Nat} {vs : List Value} {t : Tp}, TAt w K n vs t → ∀ x ∈ Tp.all kind t, R64 x
  | 0, _, _, h, _, _ => h.elim
  | n + 1, vs, t, ⟨v, h1, h2, h3, h4⟩, x, hx => by
    rw [Tp.all_eq] at hx
    rcases List.mem_append.1 hx with hx | hx
    · split at hx
      · rw [List.mem_singleton.1 hx]; exact h3
      · cases hx
    · obtain ⟨y, hy, hxy⟩ := Tp.mem_allL.1 hx
      rcases h4 with ⟨b, o, c, hv, hb, hl, hm, hc⟩ | ⟨h0, -⟩
      · obtain ⟨i, hi⟩ := List.getElem?_of_mem hy
        obtain ⟨vs', -, g2⟩ := hc i y hi
        exact TAt.all64 kind g2 x hxy
      · rw [h0] at hy; cases hy
theorem TAt.found64 {w : World} {K : Nat → Prop} (kind : Int) {n : Nat} {vs : List Value} {t : Tp} (h : TAt w K n vs t) : ∀ x ∈ Tp.found kind t [], R64 x := fun x hx => h.all64 kind x (Tp.mem_fnd.1 hx)
end Go.Proofs.Ytigliglmejkakaa
