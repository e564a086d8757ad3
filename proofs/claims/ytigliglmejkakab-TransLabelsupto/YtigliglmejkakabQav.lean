/- What a label's maker answers; the gatherer with any fields. The order of types: Compare, Or, CompareFunc, Cmp, Same. Cmp, Same. RightScheme. -/
import Derived.Deep.RegionHeld
import Derived.Test.YtigliglmejkakabQau
import Derived.Test.YtigliglmejkakabQac
import Derived.Test.YtigliglmejkakabQai
import Derived.Test.YtigliglmejkakabQaf
namespace Go.Proofs.Ytigliglmejkakab
open Go.RowKit
set_option linter.unusedVariables false
set_option linter.unusedSimpArgs false

/-- A gatherer in G, its fields in a row of their own from base on. -/
structure Gu (G base : Nat) (P : Addr) (n : Nat) (v : Value) (xs : List Value) (w : World) : Prop where
  lo : G < base
  le : base ≤ w.heap.size
  g : Arr w G 69 [.pointer (some P), v]
  own : w.ownsRow base 57 2 v n xs
theorem Gu.stays {G base : Nat} {P : Addr} {n : Nat} {v : Value} {xs : List Value} {w w' : World} (h : Gu G base P n v xs w) (hb : Below w.heap.size w w') : Gu G base P n v xs w' := ⟨h.lo, Nat.le_trans h.le hb.size, h.g.stays hb, own_stays h.own hb⟩
set_option maxHeartbeats 1000000 in
set_option maxRecDepth 100000 in
theorem uadd_any (w : World) (G base : Nat) (P : Addr) (n : Nat) (v : Value) (xs : List Value) (lab : ByteArray) (fn : Fn) (fs bs : Array Value) (h : Gu G base P n v xs w) (hn : n ≤ 1048576 * 4) : Calls Try.prog 40 #[.pointer (some ⟨G, 0, none⟩), .string lab, .func fn fs bs] w fun e w' => e = .returned (.tuple #[]) ∧ (∃ v', Gu G base P (n + 1) v' (xs ++ [.string lab, .func fn fs bs]) w') ∧ Ad G w w' := by
  obtain ⟨p, c, rfl⟩ := own_form h.own
  have g0 := h.g.cell
  have g1 : ∀ o, (w.alloc o).cell? ⟨G, 1, none⟩ = some (.slice p n c) := fun o => (h.g.stays (bl_alloc (Below.refl _ _) o)).cell 1
  obtain ⟨i0, hi0, hz0, hz1, hz2⟩ := info_parts0 info_field
  have HG := hid h
  clear h
  go_enter Try.func40, Try.ntmps40
  go_wp2_with (at_builtin; refine wpList_append_own _ rfl _ _ 51 rfl base 57 i0 (.agg #[.string ByteArray.empty, .nilFunc]) 2 24 Try.underlying51 hi0 hz0 hz1 hz2 rfl (by decide) _ n xs rfl (HG.out.own.alloc _) ⟨w.heap.size, 0, none⟩ 1 1 [.string lab, .func fn fs bs] rfl rfl ?c1 ?c2 ?c3 ?c4 ?c5 ?_)
  case c1 =>
    intro j u hj
    match j, hj with
    | 0, hj => simp at hj; subst hj; simp [Addr.add]
    | 1, hj => simp at hj; subst hj; simp [Addr.add]
    | j + 2, hj => simp at hj
  case c2 => intro u hu; simp at hu; rcases hu with rfl | rfl <;> rfl
  case c3 => unfold maxLen; omega
  case c4 => omega
  case c5 => have := HG.out.le; simp; omega
  intro v' w2 hown hgrow _
  have HA : Hid (Gu G base P n (.slice p n c) xs (w.alloc (.cells #[.string lab, .func fn fs bs] 57))) := HG.out.stays (bl_alloc (Below.refl _ _) _)
  have hne : some G ≠ (Value.slice p n c).ownBlock := fun e => by have := (HG.out.own.lt G e.symm).1; have := HG.out.lo; omega
  have HG2 : Hid (Arr w2 G 69 [.pointer (some P), .slice p n c]) := HA.out.g.grown hgrow hne
  have x2 := HG2.out.cell
  have z2 := HG2.out.frozen
  obtain ⟨va, vc, rfl⟩ := own_form hown
  have HO := hid hown
  have HGR := hid hgrow
  clear hown hgrow g0 g1
  go_wp2
  first | refine bodyPost_end (results_none rfl _ _ _) rfl ?_ | refine bodyPost_ret (results_none rfl _ _ _) rfl ?_
  have hlo := HG.out.lo
  have hle := HG.out.le
  have hrow' : ∀ b, (Value.slice va (n + 1) vc).ownBlock = some b → base ≤ b := fun b hb => (HO.out.lt b hb).1
  refine ⟨rfl, ⟨_, ⟨hlo, ?_, HG2.out.set 1 _, ?_⟩⟩, ⟨?_, ?_, ?_⟩⟩
  · have := HGR.out.size; simp [World.setCell] at *; omega
  · exact HO.out.kept (row := some G) ⟨rfl, rfl, rfl, by simp [World.setCell], fun b _ hb => Below.heap_setCell _ _ _ _ (fun e => hb (by simp [e]))⟩ (Or.inr (fun e => by have := hrow' _ e; omega))
  · have := HGR.out.size; simp [World.setCell] at *; omega
  · have hB1 : Below G w (w.alloc (.cells #[.string lab, .func fn fs bs] 57)) := (bl_alloc (Below.refl w.heap.size w) _).mono (by omega)
    have hB2 : Below G w w2 := hB1.grown HGR.out (by simp; omega) (fun b e => by have := (HG.out.own.lt b e).1; omega)
    exact hB2.setCell (p := ⟨G, 1, none⟩) (Nat.le_refl _) _
  · intro b T cur hb hT hA
    exact ((hA.stays (bl_alloc (Below.refl _ _) _)).grown HGR.out (own_typed HA.out.own (hA.stays (bl_alloc (Below.refl _ _) _)) hT)).other (p := ⟨G, 1, none⟩) hb _

/-- What a call that makes a target type answers: the type, and the error's number. -/
abbrev An := Tgt.Tt × Int
def AnsOf (w : World) (a : An) (e : Ending) (w' : World) : Prop :=
  (∃ p' q' p q N, e = .returned (.tuple #[.agg #[.int .i64 a.1.k, .int .i64 a.1.n, .slice p' a.1.ls.length q', .slice p a.1.ks.length q], .int .i64 a.2]) ∧ Tgt.TAt w' (fun b => w.heap.size ≤ b) N [.int .i64 a.1.k, .int .i64 a.1.n, .slice p' a.1.ls.length q', .slice p a.1.ks.length q] a.1) ∧ Below w.heap.size w w'
def zeroA : Tgt.Tt := .mk 0 0 [] []
def ansB (ok : Bool) (y : Tgt.Tt) : An := bif ok then (y, 0) else (zeroA, 1)
theorem AnsOf.err {w w' : World} (x : Int) (hb : Below w.heap.size w w') : AnsOf w (zeroA, x) (.returned (.tuple #[.agg #[.int .i64 0, .int .i64 0, .slice none 0 0, .slice none 0 0], .int .i64 x])) w' :=
  ⟨⟨none, 0, none, 0, 1, rfl, tat_leaf 0 0 (⟨by omega, by omega⟩ : Tgt.R64 0) (⟨by omega, by omega⟩ : Tgt.R64 0)⟩, hb⟩
theorem TtAns2.ans {ok : Bool} {y : Tgt.Tt} {w w' : World} {e : Ending} (h : TtAns2 ok y w e w') (hb : Below w.heap.size w w') : AnsOf w (ansB ok y) e w' := by
  rcases h with ⟨rfl, a', c', a, c, N, h1, h2⟩ | ⟨rfl, rfl⟩
  · exact ⟨⟨a', c', a, c, N, h1, h2⟩, hb⟩
  · exact AnsOf.err 1 hb
/-- A maker: it answers so wherever its boxes lie as they lie now. -/
def Mk (w0 w : World) (G : Nat) (g : FuncId) (bs : Array Value) (a : An) : Prop :=
  Enters g ∧ ∃ bx : List (Nat × TypeId × List Value), (∀ x ∈ bx, x.1 ≠ G ∧ x.2.1 ≠ 57 ∧ Arr w x.1 x.2.1 x.2.2) ∧ ∀ wz, Below w0.heap.size w0 wz → (∀ x ∈ bx, Arr wz x.1 x.2.1 x.2.2) → Calls Try.prog g bs wz (AnsOf wz a)
theorem Mk.on {w0 w w' : World} {G : Nat} {g : FuncId} {bs : Array Value} {a : An} (h : Mk w0 w G g bs a) (ha : Ad G w w') : Mk w0 w' G g bs a := by
  obtain ⟨h0, bx, h1, h2⟩ := h
  exact ⟨h0, bx, fun x hx => ⟨(h1 x hx).1, (h1 x hx).2.1, ha.arr _ _ _ (h1 x hx).1 (h1 x hx).2.1 (h1 x hx).2.2⟩, h2⟩
theorem Mk.stays {w0 w w' : World} {G : Nat} {g : FuncId} {bs : Array Value} {a : An} (h : Mk w0 w G g bs a) (hb : Below w.heap.size w w') : Mk w0 w' G g bs a := by
  obtain ⟨h0, bx, h1, h2⟩ := h
  exact ⟨h0, bx, fun x hx => ⟨(h1 x hx).1, (h1 x hx).2.1, (h1 x hx).2.2.stays hb⟩, h2⟩
/-- A field: its label, and its maker's function and boxes. -/
structure Fd where
  lab : ByteArray
  g : FuncId
  bs : Array Value
def flatF : List Fd → List Value
  | [] => []
  | f :: r => .string f.lab :: .func (.func f.g) #[] f.bs :: flatF r
theorem flatF_app (l : List Fd) (f : Fd) : flatF (l ++ [f]) = flatF l ++ [.string f.lab, .func (.func f.g) #[] f.bs] := by
  induction l with
  | nil => rfl
  | cons x r ih => simp only [List.cons_append, flatF, ih]
theorem flatF_len (l : List Fd) : (flatF l).length = l.length * 2 := by
  induction l with
  | nil => rfl
  | cons x r ih => simp only [flatF, List.length_cons, ih]; omega
theorem flatF_at {l : List Fd} : ∀ {i : Nat} {f : Fd}, l[i]? = some f → (flatF l)[i * 2]? = some (.string f.lab) ∧ (flatF l)[i * 2 + 1]? = some (.func (.func f.g) #[] f.bs) := by
  induction l with
  | nil => intro i f h; simp at h
  | cons x r ih =>
    intro i f h
    cases i with
    | zero => simp at h; subst h; exact ⟨rfl, rfl⟩
    | succ i =>
      simp only [List.getElem?_cons_succ] at h
      have := ih h
      rw [show (i + 1) * 2 = i * 2 + 1 + 1 by omega]
      exact this
/-- A gatherer that has these labels. -/
structure GS (w0 : World) (G base : Nat) (P : Addr) (fl : List (ByteArray × An)) (fs : List Fd) (v : Value) (w : World) : Prop where
  gt : Gu G base P fl.length v (flatF fs) w
  len : fs.length = fl.length
  mks : ∀ (i : Nat) f x, fs[i]? = some f → fl[i]? = some x → f.lab = x.1 ∧ Mk w0 w G f.g f.bs x.2
  lo : w0.heap.size ≤ G
  bl : Below w0.heap.size w0 w
theorem GS.stays {w0 w w' : World} {G base : Nat} {P : Addr} {fl : List (ByteArray × An)} {fs : List Fd} {v : Value} (h : GS w0 G base P fl fs v w) (hb : Below w.heap.size w w') : GS w0 G base P fl fs v w' :=
  ⟨h.gt.stays hb, h.len, fun i f x hf hx => ⟨(h.mks i f x hf hx).1, (h.mks i f x hf hx).2.stays hb⟩, h.lo, bl_tr h.bl hb⟩
theorem gs_add (w0 w : World) (G base : Nat) (P : Addr) (fl : List (ByteArray × An)) (fs : List Fd) (v : Value) (lab : ByteArray) (g : FuncId) (bs : Array Value) (a : An) (h : GS w0 G base P fl fs v w) (hm : Mk w0 w G g bs a) (hn : fl.length ≤ 1048576 * 4) :
    Calls Try.prog 40 #[.pointer (some ⟨G, 0, none⟩), .string lab, .func (.func g) #[] bs] w fun e w' => e = .returned (.tuple #[]) ∧ (∃ v', GS w0 G base P (fl ++ [(lab, a)]) (fs ++ [⟨lab, g, bs⟩]) v' w') ∧ Ad G w w' := by
  refine (uadd_any w G base P fl.length v (flatF fs) lab (.func g) #[] bs h.gt hn).mono ?_
  rintro e w' ⟨rfl, ⟨v', hg⟩, ad⟩
  refine ⟨rfl, ⟨v', ⟨?_, ?_, ?_, h.lo, h.bl.trans (ad.bl.mono h.lo)⟩⟩, ad⟩
  · rw [flatF_app, List.length_append]; exact hg
  · rw [List.length_append, List.length_append, h.len]; rfl
  · intro i f x hf hx
    by_cases hi : i < fs.length
    · rw [List.getElem?_append_left hi] at hf
      rw [List.getElem?_append_left (by have := h.len; omega)] at hx
      exact ⟨(h.mks i f x hf hx).1, (h.mks i f x hf hx).2.on ad⟩
    · have hi2 : i = fs.length := by
        have := (List.getElem?_eq_some_iff.1 hf).1
        rw [List.length_append] at this
        simp at this
        omega
      subst hi2
      rw [List.getElem?_append_right (Nat.le_refl _)] at hf
      rw [h.len, List.getElem?_append_right (Nat.le_refl _)] at hx
      simp at hf hx
      subst hf
      subst hx
      exact ⟨rfl, hm.on ad⟩
end Go.Proofs.Ytigliglmejkakab

namespace Go.Proofs.Ytigliglmejkakab
open Go.RowKit
set_option linter.unusedVariables false
set_option linter.unusedSimpArgs false

def Tp.orL : List Int → Int
  | [] => 0
  | x :: r => Tp.or x (Tp.orL r)
theorem Tp.orL_at {l : List Int} {k : Nat} {x : Int} (hx : l[k]? = some x) : Tp.orL (l.drop k) = Tp.or x (Tp.orL (l.drop (k + 1))) := by
  obtain ⟨h1, e1⟩ := List.getElem?_eq_some_iff.1 hx
  rw [List.drop_eq_getElem_cons h1, e1, Tp.orL]

theorem Tp.cmp_mk (a b : Tp) : Tp.cmp a b = Tp.or (Tp.num a.k b.k) (Tp.or (Tp.num a.n b.n) (Tp.or (Tp.num a.ks.length b.ks.length) (Tp.cmpL a.ks b.ks))) := by
  cases a; cases b; rw [Tp.cmp]; rfl
theorem Tp.cmpL_at {xs ys : List Tp} {k : Nat} {x y : Tp} (hx : xs[k]? = some x) (hy : ys[k]? = some y) : Tp.cmpL (xs.drop k) (ys.drop k) = Tp.or (Tp.cmp x y) (Tp.cmpL (xs.drop (k + 1)) (ys.drop (k + 1))) := by
  obtain ⟨h1, e1⟩ := List.getElem?_eq_some_iff.1 hx
  obtain ⟨h2, e2⟩ := List.getElem?_eq_some_iff.1 hy
  rw [List.drop_eq_getElem_cons h1, e1, List.drop_eq_getElem_cons h2, e2, Tp.cmpL]
theorem Tp.cmpL_nil : Tp.cmpL [] [] = 0 := by rw [Tp.cmpL]
def CmpOf (f : FuncId) (n : Nat) : Prop := ∀ (w : World) (m : Nat) (va vb : List Value) (a b : Tp), TAt w Any n va a → TAt w Any m vb b → Calls Try.prog f #[.agg va.toArray, .agg vb.toArray] w fun e w' => e = .returned (.int .i64 (Tp.cmp a b)) ∧ Below w.heap.size w w'

end Go.Proofs.Ytigliglmejkakab

namespace Go.Proofs.Ytigliglmejkakab
open Go.RowKit
set_option linter.unusedVariables false
set_option linter.unusedSimpArgs false

theorem Tp.or_or (a b c : Int) : Tp.or a (Tp.or b c) = Tp.or (Tp.or a b) c := by
  unfold Tp.or
  by_cases ha : a = 0
  · simp [ha]
  · simp [ha]
theorem Tp.or_zero (a : Int) : Tp.or a 0 = a := by unfold Tp.or; split <;> simp_all
theorem ls3 (w : World) (a b c : Int) (T : TypeId) : Ls (w.alloc (.cells #[.int .i64 a, .int .i64 b, .int .i64 c] T)) Any (.slice (some ⟨w.heap.size, 0, none⟩) 3 3) [a, b, c] := by
  refine .inl ⟨w.heap.size, 0, 3, rfl, trivial, (show 3 ≤ 3 by decide), (show 3 ≤ maxLen by decide), fun j x hx => ?_⟩
  have hh := heap_alloc_at w (.cells #[.int .i64 a, .int .i64 b, .int .i64 c] T)
  match j, hx with
  | 0, hx => simp at hx; subst hx; rw [cell_at hh]; rfl
  | 1, hx => simp at hx; subst hx; rw [cell_at hh]; rfl
  | 2, hx => simp at hx; subst hx; rw [cell_at hh]; rfl
  | j + 3, hx => simp at hx

end Go.Proofs.Ytigliglmejkakab

namespace Go.Proofs.Ytigliglmejkakab
open Go.RowKit
set_option linter.unusedVariables false
set_option linter.unusedSimpArgs false

set_option maxHeartbeats 1000000 in
set_option maxRecDepth 100000 in
theorem RightScheme_any (w : World) (n : Nat) (g : Int) (vs : List Value) (t : Tp) (hT : TAt w Any n vs t) (hc : t.cnt ≤ 1048576) : Calls Try.prog 56 #[.agg (.int .i64 g :: vs).toArray] w fun e w' => e = .returned (.bool (Tp.rightS g t)) ∧ Below w.heap.size w w' := by
  have hR : Hid (∀ o, Calls Try.prog 20 #[.agg vs.toArray] (w.alloc o) fun e w' => e = .returned (.bool t.right) ∧ Below (w.alloc o).heap.size (w.alloc o) w') := fun o => Right_any _ n vs t (hT.below (bl_alloc (Below.refl _ _) _))
  have hG : Hid (∀ wz, Below w.heap.size w wz → Calls Try.prog 73 #[.agg vs.toArray] wz fun e w' => ∃ v, e = .returned v ∧ Ls w' Any v (Tp.found 8 t []) ∧ Below wz.heap.size wz w') := fun wz hz => Gens_any _ n vs t (hT.below hz) hc
  have hD : Hid (Tp.rightS g t = (t.right && (Tp.ups (Tp.found 8 t []) 0 && decide (((Tp.found 8 t []).length : Int) = g)))) := rfl
  obtain ⟨a, c, rfl⟩ := hT.form
  have HB : Hid (∀ o, Below w.heap.size w (w.alloc o)) := fun o => bl_alloc (Below.refl _ _) o
  generalize Tp.rightS g t = r at hD
  clear hT hc
  cases hr : t.right with
  | false =>
    rw [hr] at hR hD
    have hD' := hD.out
    rw [Bool.false_and] at hD'
    subst hD'
    go_enter Try.func56, Try.ntmps56
    go_wp2_with (go_at_call 20; refine (hR.out _).mono ?_; rintro e w2 ⟨rfl, hb2⟩)
    go_ret
    exact ⟨rfl, bl_tr (HB.out _) hb2⟩
  | true =>
    rw [hr] at hR hD
    have HD : Hid (r = (Tp.ups (Tp.found 8 t []) 0 && decide (((Tp.found 8 t []).length : Int) = g))) := by show r = _; rw [hD.out, Bool.true_and]
    clear hD hr
    generalize Tp.found 8 t [] = l at hG HD
    go_enter Try.func56, Try.ntmps56
    go_wp2_with (first | (go_at_call 20; refine (hR.out _).mono ?_; rintro e w2 ⟨rfl, hb2⟩; have x0 := hb2.cell (p := ⟨w.heap.size, 0, none⟩) (by simp); have x1 := hb2.cell (p := ⟨w.heap.size, 1, none⟩) (by simp); have x2 := hb2.cell (p := ⟨w.heap.size, 2, none⟩) (by simp); have x3 := hb2.cell (p := ⟨w.heap.size, 3, none⟩) (by simp); simp [go_sem] at x0 x1 x2 x3) | (go_at_call 73; refine (hG.out _ (bl_tr (HB.out _) hb2)).mono ?_; rintro e w3 ⟨v3, rfl, hl3, hb3⟩; obtain ⟨p3, c3, rfl, hm3⟩ := hl3.form; have y0 := hb3.cell (p := ⟨w.heap.size, 0, none⟩) (World.block_lt_of_cell? _ _ x0); rw [x0] at y0; have HL : Hid (Ls w3 Any _ l) := hl3; clear hl3))
    unfold maxLen at hm3
    have HBB : Hid (Below w.heap.size w w3) := bl_tr (bl_tr (HB.out _) hb2) hb3
    clear hR hG HB hb2 hb3 x0 x1 x2 x3
    go_loopw [15] (fun v wr => ∃ k : Nat, v = .int .i64 k ∧ k ≤ l.length ∧ Hid (r = (Tp.ups (l.drop k) k && decide ((l.length : Int) = g))) ∧ wr = w3) (fun v _ => l.length - (intOf v).toNat)
    case atStart => exact ⟨0, rfl, Nat.zero_le _, HD, rfl⟩
    case round =>
      obtain ⟨k, rfl, hk, hH, rfl⟩ := hrel
      by_cases hlt : k < l.length
      · obtain ⟨b, o, c', hv, -, -, -, hl⟩ := HL.out.resolve_right (fun h => by rw [h.1] at hlt; exact absurd hlt (Nat.not_lt_zero _))
        injection hv with e1 e2 e3
        subst e1
        obtain ⟨x, hx⟩ : ∃ x, l[k]? = some x := ⟨_, List.getElem?_eq_getElem hlt⟩
        have hc := hl k x hx
        have HX := hH.out
        rw [Tp.ups_at hx] at HX
        clear hl hx hH e2 e3
        by_cases he : x = k
        · rw [decide_eq_true he, Bool.true_and] at HX
          have HY := hid HX
          clear HX
          have ht : (x == (k : Int)) = true := by rw [he]; simp
          clear he
          go_wp2
          go_roundw
          case rel => exact ⟨k + 1, by go_num, by omega, HY, by trivial⟩
          case measure => simp [intOf]; omega
        · rw [decide_eq_false he, Bool.false_and, Bool.false_and] at HX
          subst HX
          have ht : (x == (k : Int)) = false := by simpa using he
          clear he
          go_wp2
          go_ret
          exact ⟨rfl, HBB.out⟩
      · have HX := hH.out
        rw [List.drop_eq_nil_of_le (by omega), Tp.ups, Bool.true_and] at HX
        have HY := hid HX
        clear HX hH
        go_wp2
        go_ret
        rw [HY.out]
        exact ⟨rfl, HBB.out⟩
end Go.Proofs.Ytigliglmejkakab
