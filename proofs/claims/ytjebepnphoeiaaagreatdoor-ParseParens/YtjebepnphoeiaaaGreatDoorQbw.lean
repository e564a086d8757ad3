/- Pieces: NdXZ LexSame LexR BlanksW ShelfJoin LexJoin BackW GrEt GrEq. -/
import Derived.Test.YtjebepnphoeiaaaGreatDoorQbs
import Derived.Test.YtjebepnphoeiaaaGreatDoorQbt
import Derived.Test.YtjebepnphoeiaaaGreatDoorQbu
import Derived.Test.YtjebepnphoeiaaaGreatDoorQbv
import Derived.Test.YtjebepnphoeiaaaGreatDoorQbc
import Derived.Test.YtjebepnphoeiaaaGreatDoorQaz
import Derived.Deep.CutRange
import Derived.Shelf.Strings.OnBuilder
import Derived.Test.YtjebepnphoeiaaaGreatDoorProg
import Derived.Test.YtjebepnphoeiaaaGreatDoorQay
namespace Go.Proofs.YtjebepnphoeiaaaGreatDoor
open Go.RowKit
set_option linter.unusedVariables false

theorem AtL.zero {w : World} {s : Nat} {v : Value} {l : List Nd} (h : AtL w Any 0 s v l) : l = [] := by
 rcases h with ⟨b, o, c, -, -, -, -, hk⟩ | ⟨h, -⟩
 ·
  cases l with
  | nil => rfl
  | cons x r => obtain ⟨vs, -, -, h⟩ := hk 0 x rfl; exact h.elim
 ·
  exact h

theorem refBase0 : RefSameOf 43 0 0 := by
 intro w v1 v2 xs ys h1 h2
 obtain rfl := h1.zero
 obtain rfl := h2.zero
 obtain ⟨a1, c1, rfl, -⟩ := h1.form
 obtain ⟨a2, c2, rfl, -⟩ := h2.form
 clear h1 h2
 go_enter Tryz.func43, Tryz.ntmps43
 go_wp2
 go_loopw [5] (fun v wr => v = .int .i64 0 ∧ wr = w) (fun _ _ => 0)
 case atStart => exact ⟨rfl, rfl⟩
 case round =>
  obtain ⟨rfl, rfl⟩ := hrel
  go_wp2
  go_ret
  exact ⟨ret_bool Nd.eqL_nil.symm, Below.refl _ _⟩

theorem refBase1 : RefSameOf 37 0 1 := by
 intro w v1 v2 xs ys h1 h2
 obtain rfl := h1.zero
 obtain rfl := h2.zero
 obtain ⟨a1, c1, rfl, -⟩ := h1.form
 obtain ⟨a2, c2, rfl, -⟩ := h2.form
 clear h1 h2
 go_enter Tryz.func37, Tryz.ntmps37
 go_wp2
 go_loopw [5] (fun v wr => v = .int .i64 0 ∧ wr = w) (fun _ _ => 0)
 case atStart => exact ⟨rfl, rfl⟩
 case round =>
  obtain ⟨rfl, rfl⟩ := hrel
  go_wp2
  go_ret
  exact ⟨ret_bool Nd.eqL_nil.symm, Below.refl _ _⟩

theorem refBase2 : RefSameOf 31 0 2 := by
 intro w v1 v2 xs ys h1 h2
 obtain rfl := h1.zero
 obtain rfl := h2.zero
 obtain ⟨a1, c1, rfl, -⟩ := h1.form
 obtain ⟨a2, c2, rfl, -⟩ := h2.form
 clear h1 h2
 go_enter Tryz.func31, Tryz.ntmps31
 go_wp2
 go_loopw [5] (fun v wr => v = .int .i64 0 ∧ wr = w) (fun _ _ => 0)
 case atStart => exact ⟨rfl, rfl⟩
 case round =>
  obtain ⟨rfl, rfl⟩ := hrel
  go_wp2
  go_ret
  exact ⟨ret_bool Nd.eqL_nil.symm, Below.refl _ _⟩

theorem refBase3 : RefSameOf 81 0 3 := by
 intro w v1 v2 xs ys h1 h2
 obtain rfl := h1.zero
 obtain rfl := h2.zero
 obtain ⟨a1, c1, rfl, -⟩ := h1.form
 obtain ⟨a2, c2, rfl, -⟩ := h2.form
 clear h1 h2
 go_enter Tryz.func81, Tryz.ntmps81
 go_wp2
 go_loopw [5] (fun v wr => v = .int .i64 0 ∧ wr = w) (fun _ _ => 0)
 case atStart => exact ⟨rfl, rfl⟩
 case round =>
  obtain ⟨rfl, rfl⟩ := hrel
  go_wp2
  go_ret
  exact ⟨ret_bool Nd.eqL_nil.symm, Below.refl _ _⟩

theorem refBase4 : RefSameOf 148 0 4 := by
 intro w v1 v2 xs ys h1 h2
 obtain rfl := h1.zero
 obtain rfl := h2.zero
 obtain ⟨a1, c1, rfl, -⟩ := h1.form
 obtain ⟨a2, c2, rfl, -⟩ := h2.form
 clear h1 h2
 go_enter Tryz.func148, Tryz.ntmps148
 go_wp2
 go_loopw [5] (fun v wr => v = .int .i64 0 ∧ wr = w) (fun _ _ => 0)
 case atStart => exact ⟨rfl, rfl⟩
 case round =>
  obtain ⟨rfl, rfl⟩ := hrel
  go_wp2
  go_ret
  exact ⟨ret_bool Nd.eqL_nil.symm, Below.refl _ _⟩

theorem refBase5 : RefSameOf 149 0 5 := by
 intro w v1 v2 xs ys h1 h2
 obtain rfl := h1.zero
 obtain rfl := h2.zero
 obtain ⟨a1, c1, rfl, -⟩ := h1.form
 obtain ⟨a2, c2, rfl, -⟩ := h2.form
 clear h1 h2
 go_enter Tryz.func149, Tryz.ntmps149
 go_wp2
 go_loopw [5] (fun v wr => v = .int .i64 0 ∧ wr = w) (fun _ _ => 0)
 case atStart => exact ⟨rfl, rfl⟩
 case round =>
  obtain ⟨rfl, rfl⟩ := hrel
  go_wp2
  go_ret
  exact ⟨ret_bool Nd.eqL_nil.symm, Below.refl _ _⟩

theorem refBase6 : RefSameOf 150 0 6 := by
 intro w v1 v2 xs ys h1 h2
 obtain rfl := h1.zero
 obtain rfl := h2.zero
 obtain ⟨a1, c1, rfl, -⟩ := h1.form
 obtain ⟨a2, c2, rfl, -⟩ := h2.form
 clear h1 h2
 go_enter Tryz.func150, Tryz.ntmps150
 go_wp2
 go_loopw [5] (fun v wr => v = .int .i64 0 ∧ wr = w) (fun _ _ => 0)
 case atStart => exact ⟨rfl, rfl⟩
 case round =>
  obtain ⟨rfl, rfl⟩ := hrel
  go_wp2
  go_ret
  exact ⟨ret_bool Nd.eqL_nil.symm, Below.refl _ _⟩

theorem refBase7 : RefSameOf 218 0 7 := by
 intro w v1 v2 xs ys h1 h2
 obtain rfl := h1.zero
 obtain rfl := h2.zero
 obtain ⟨a1, c1, rfl, -⟩ := h1.form
 obtain ⟨a2, c2, rfl, -⟩ := h2.form
 clear h1 h2
 go_enter Tryz.func218, Tryz.ntmps218
 go_wp2
 go_loopw [5] (fun v wr => v = .int .i64 0 ∧ wr = w) (fun _ _ => 0)
 case atStart => exact ⟨rfl, rfl⟩
 case round =>
  obtain ⟨rfl, rfl⟩ := hrel
  go_wp2
  go_ret
  exact ⟨ret_bool Nd.eqL_nil.symm, Below.refl _ _⟩

structure RefAll (n : Nat) : Prop where
 s0 : RefSameOf 43 n 0
 s1 : RefSameOf 37 n 1
 s2 : RefSameOf 31 n 2
 s3 : RefSameOf 81 n 3
 s4 : RefSameOf 148 n 4
 s5 : RefSameOf 149 n 5
 s6 : RefSameOf 150 n 6
 s7 : RefSameOf 218 n 7
theorem ref_all : ∀ n, RefAll n
 | 0 => ⟨refBase0, refBase1, refBase2, refBase3, refBase4, refBase5, refBase6, refBase7⟩
 | n + 1 =>
  have h := ref_all n
  ⟨refSame0 n h.s0, refSame1 n h.s1, refSame2 n h.s1 h.s2 h.s3 h.s0, refSame3 n h.s0 h.s2 h.s4 h.s5 h.s6, refSame4 n h.s0, refSame5 n h.s3 h.s5 h.s6, refSame6 n h.s7 h.s6 h.s0, refSame7 n h.s0 h.s4 h.s6⟩
theorem Nd.eqL_one (A B : Nd) : Nd.eqL [A] [B] = Nd.eq A B := by rw [Nd.eqL_cons, Nd.eqL_nil, Bool.and_true]
theorem made2 {w : World} {n s : Nat} {va vb : List Value} {A B : Nd} (ha : va.length = Nd.size s) (hb : vb.length = Nd.size s) (hA : At w Any n s va A) (hB : At w Any n s vb B) (o1 o2 : Obj) (t : TypeId) :
  AtL ((((w.alloc o1).alloc o2).alloc (.cells va.toArray t)).alloc (.cells vb.toArray t)) Any n s (.slice (some ⟨w.heap.size + 1 + 1, 0, .none⟩) 1 1) [A] ∧ AtL ((((w.alloc o1).alloc o2).alloc (.cells va.toArray t)).alloc (.cells vb.toArray t)) Any n s (.slice (some ⟨w.heap.size + 1 + 1 + 1, 0, .none⟩) 1 1) [B] := by
 have k : Below w.heap.size w ((w.alloc o1).alloc o2) := bl_alloc (bl_alloc (Below.refl _ _) _) _
 have h1 := AtL.made1 (t := t) ha (At.move (Keeps.of_below k) (fun _ h => h) _ _ _ _ hA)
 have h2 := AtL.made1 (t := t) hb (At.move (Keeps.of_below (bl_alloc k (.cells va.toArray t))) (fun _ h => h) _ _ _ _ hB)
 rw [show ((w.alloc o1).alloc o2).heap.size = w.heap.size + 1 + 1 by simp] at h1
 rw [show (((w.alloc o1).alloc o2).alloc (.cells va.toArray t)).heap.size = w.heap.size + 1 + 1 + 1 by simp] at h2
 exact ⟨h1.below (bl_alloc (Below.refl _ _) _), h2⟩

set_option maxRecDepth 100000 in
set_option maxRecDepth 100000 in
set_option maxRecDepth 100000 in
theorem refOne2 (n : Nat) : SameOf 11 n 2 := by
 intro w va vb A B hA hB
 obtain ⟨i0x, i1x, i2x, a3x, n3x, c3x, d0x, m0x, e0x, d1x, m1x, e1x, d2x, m2x, e2x, d3x, m3x, e3x, rfl⟩ := At.exp_form hA
 obtain ⟨i0y, i1y, i2y, a3y, n3y, c3y, d0y, m0y, e0y, d1y, m1y, e1y, d2y, m2y, e2y, d3y, m3y, e3y, rfl⟩ := At.exp_form hB
 have hM : Hid (∀ o1 o2 t, _) := fun o1 o2 t => made2 rfl rfl hA hB o1 o2 t
 have q : Hid (∀ w v1 v2, _ → _ → _) := fun w v1 v2 h1 h2 => (ref_all n).s2 w v1 v2 [A] [B] h1 h2
 rw [Nd.eqL_one] at q
 clear hA hB
 go_enter Tryz.func11, Tryz.ntmps11
 go_wp2_with (go_at_call 31; refine (q.out _ _ _ (hM.out _ _ _).1 (hM.out _ _ _).2).mono ?_; rintro e w1 ⟨rfl, hb1⟩; have hB := bl_tr (bl_alloc (bl_alloc (bl_alloc (bl_alloc (Below.refl _ _) _) _) _) _) hb1)
 go_ret
 exact ⟨rfl, hB⟩





structure Lv where
 kind : Int
 text : ByteArray
 n : Int
 place : Int
def Lv.cells (t : Lv) : List Value := [.int .i64 t.kind, .string t.text, .int .i64 t.n, .int .i64 t.place]
def Lv.core (t : Lv) : Int × ByteArray × Int := (t.kind, t.text, t.n)
def LvAt (w : World) (v : Value) (ts : List Lv) : Prop :=
 (ts = [] ∧ ∃ a c, v = .slice a 0 c) ∨ ∃ g o c, v = .slice (some ⟨g, o, none⟩) ts.length c ∧ g < w.heap.size ∧ ∀ i t, ts[i]? = some t → w.cell? ⟨g, o + i * 4, none⟩ = some (.int .i64 t.kind) ∧ w.cell? ⟨g, o + i * 4 + 1, none⟩ = some (.string t.text) ∧ w.cell? ⟨g, o + i * 4 + 2, none⟩ = some (.int .i64 t.n) ∧ w.cell? ⟨g, o + i * 4 + 3, none⟩ = some (.int .i64 t.place)
theorem LvAt.below {w w' : World} {v : Value} {ts : List Lv} {B : Nat} (h : LvAt w v ts) (hb : Below B w w') (hB : w.heap.size ≤ B) : LvAt w' v ts := by
 rcases h with h | ⟨g, o, c, hv, hg, h⟩
 ·
  exact .inl h
 ·
  refine .inr ⟨g, o, c, hv, Nat.lt_of_lt_of_le hg hb.size, fun i t ht => ?_⟩
  have hg2 := Nat.lt_of_lt_of_le hg hB
  obtain ⟨h0, h1, h2, h3⟩ := h i t ht
  exact ⟨(hb.cell hg2).trans h0, (hb.cell hg2).trans h1, (hb.cell hg2).trans h2, (hb.cell hg2).trans h3⟩
theorem LvAt.form {w : World} {v : Value} {ts : List Lv} (h : LvAt w v ts) : ∃ a c, v = .slice a ts.length c := by
 rcases h with ⟨rfl, a, c, rfl⟩ | ⟨g, o, c, rfl, -⟩
 ·
  exact ⟨_, _, rfl⟩
 ·
  exact ⟨_, _, rfl⟩
def Lx.tv (S : Nat) (t : Lx.Tok) : Lv := ⟨t.kind, ⟨t.text.toArray⟩, t.n, ((S - t.left : Nat) : Int)⟩
theorem LvAt.of_own {w : World} {B S : Nat} {v : Value} {ts : List Lx.Tok} (h : w.ownsRow B 95 4 v ts.length (ts.flatMap (Lx.cells S))) : LvAt w v (ts.map (Lx.tv S)) := by
 rcases Toks.of_own h with ⟨rfl, rfl⟩ | ⟨g, c, hv, -, hg, h⟩
 ·
  exact .inl ⟨rfl, _, _, rfl⟩
 ·
  refine .inr ⟨g, 0, c, by rw [List.length_map]; exact hv, hg, fun i t ht => ?_⟩
  rw [List.getElem?_map] at ht
  cases ht2 : ts[i]? with
  | none => rw [ht2] at ht; cases ht
  | some t2 =>
   rw [ht2] at ht
   obtain rfl : Lx.tv S t2 = t := by simpa using ht
   have e : 0 + i * 4 = 4 * i + 0 := by omega
   have hf := Lx.flat_at S ts i t2 ht2
   rw [e]
   exact ⟨h _ _ (hf 0 (by decide)), h _ _ (hf 1 (by decide)), h _ _ (hf 2 (by decide)), h _ _ (hf 3 (by decide))⟩

def Lv.eq (a b : Lv) : Bool := decide (a.core = b.core)
end Go.Proofs.YtjebepnphoeiaaaGreatDoor
namespace Go.Proofs.YtjebepnphoeiaaaGreatDoor
set_option linter.unusedVariables false

def Lx.Tok.core (t : Lx.Tok) : Nat × List UInt8 × Nat := (t.kind, t.text, t.n)

theorem Lx.append_lex : ∀ (ts : List Lx.Tok) (c : Nat) (l : List UInt8), Lx.lexN c l = .good ts → ∀ (x : UInt8) (m : List UInt8) (c' : Nat) (us : List Lx.Tok), Lx.blank (x.toNat : Int) = true → Lx.lexN c' m = .good us →
    ∃ ts', ts'.map Lx.Tok.core = ts.map Lx.Tok.core ∧ Lx.lexN (ts.length + c') (l ++ x :: m) = .good (ts' ++ us)
  | [], c, l, h, x, m, c', us, hx, hu => by
    refine ⟨[], rfl, ?_⟩
    rw [List.length_nil, Nat.zero_add, Lx.lexN_skip (l' := m) (by rw [Lx.lexN_good_nil h, Lx.skip_blank hx]), hu]; rfl
  | a :: ts, c, l, h, x, m, c', us, hx, hu => by
    obtain ⟨q, r, c0, rfl, e, hm, hl, ha, h2⟩ := Lx.lexN_uncons h
    obtain ⟨ts', hc, hr⟩ := Lx.append_lex ts c0 r h2 x m c' us hx hu
    have hf : Lx.Fits r (r ++ x :: m) := by
      cases r with
      | nil => exact .inr fun y hy => by have : x = y := by simpa using hy
                                         subst this; exact hx
      | cons y r => exact .inl rfl
    have hs : Lx.skip (l ++ x :: m) = Lx.skip (a.text ++ (r ++ x :: m)) := by rw [e, List.append_assoc, List.append_assoc, hm]
    refine ⟨⟨a.kind, a.text, a.n, (a.text ++ (r ++ x :: m)).length⟩ :: ts', ?_, ?_⟩
    · rw [List.map_cons, List.map_cons, hc]; rfl
    · rw [List.length_cons, show ts.length + 1 + c' = ts.length + c' + 1 by omega, Lx.lexN_cons (ha.swap hf) hs, hr]; rfl

def Lx.joinL : List (List UInt8) → List UInt8
 | [] => []
 | [t] => t
 | t :: u :: r => t ++ 32 :: Lx.joinL (u :: r)
theorem Lx.back : ∀ (ts : List Lx.Tok) (c : Nat) (l : List UInt8), Lx.lexN c l = .good ts → ∃ ts', ts'.map Lx.Tok.core = ts.map Lx.Tok.core ∧ Lx.lexN ts.length (Lx.joinL (ts.map Lx.Tok.text)) = .good ts'
 | [], c, l, h => ⟨[], rfl, Lx.lexN_nil (fun m => rfl) _⟩
 | [a], c, l, h => by
  obtain ⟨q, r, c0, rfl, e, hm, hl, ha, h2⟩ := Lx.lexN_uncons h
  have hf : Lx.Fits r [] := .inr fun y hy => by cases hy
  have := ha.swap hf
  refine ⟨[⟨a.kind, a.text, a.n, (a.text ++ []).length⟩], rfl, ?_⟩
  show Lx.lexN (0 + 1) a.text = _
  rw [Lx.lexN_cons this (by rw [List.append_nil]), Lx.lexN_nil (q := []) (fun m => rfl)]; rfl
 | a :: b :: ts, c, l, h => by
  obtain ⟨q, r, c0, rfl, e, hm, hl, ha, h2⟩ := Lx.lexN_uncons h
  obtain ⟨ts', hc, hr⟩ := Lx.back (b :: ts) c0 r h2
  have hf : Lx.Fits r (32 :: Lx.joinL ((b :: ts).map Lx.Tok.text)) := .inr fun y hy => by
   have : (32 : UInt8) = y := by simpa using hy
   subst this; decide
  have := ha.swap hf
  refine ⟨⟨a.kind, a.text, a.n, (a.text ++ 32 :: Lx.joinL ((b :: ts).map Lx.Tok.text)).length⟩ :: ts', by rw [List.map_cons, List.map_cons, hc]; rfl, ?_⟩
  show Lx.lexN ((b :: ts).length + 1) (a.text ++ 32 :: Lx.joinL ((b :: ts).map Lx.Tok.text)) = _
  rw [Lx.lexN_cons this rfl, Lx.lexN_skip (l' := Lx.joinL ((b :: ts).map Lx.Tok.text)) (Lx.skip_blank (by decide)), hr]; rfl

theorem Lx.cut : ∀ (i c : Nat) (l : List UInt8) (ts : List Lx.Tok), Lx.lexN c l = .good ts → ∀ a, ts[i]? = some a → ∃ p r, l = p ++ r ∧ r.length = a.left ∧ Lx.lexN (ts.length - i) r = .good (ts.drop i) ∧
    ∀ (x : UInt8) (m : List UInt8) (c' : Nat) (us : List Lx.Tok), Lx.blank (x.toNat : Int) = true → Lx.lexN c' m = .good us → ∃ ts', ts'.map Lx.Tok.core = (ts.take i).map Lx.Tok.core ∧ Lx.lexN (i + c') (p ++ x :: m) = .good (ts' ++ us)
  | i, c, l, [], h, a, ha => by cases i <;> cases ha
  | 0, c, l, b :: ts, h, a, hi => by
    cases hi
    obtain ⟨q, r, c0, rfl, e, hm, hl, ha, h2⟩ := Lx.lexN_uncons h
    refine ⟨q, b.text ++ r, e, hl.symm, ?_, fun x m c' us hx hu => ⟨[], rfl, ?_⟩⟩
    · show Lx.lexN (ts.length + 1) _ = _
      rw [Lx.lexN_cons ha rfl, Lx.lexN_mono h2 (Nat.le_refl _)]
      show Lx.Res.good _ = _
      rw [← hl]; rfl
    · rw [Nat.zero_add, Lx.lexN_skip (l' := m) (by rw [hm, Lx.skip_blank hx]), hu]; rfl
  | i + 1, c, l, b :: ts, h, a, hi => by
    obtain ⟨q, r, c0, rfl, e, hm, hl, ha, h2⟩ := Lx.lexN_uncons h
    obtain ⟨p, r1, e1, hr1, h3, hx1⟩ := Lx.cut i c0 r ts h2 a hi
    refine ⟨q ++ (b.text ++ p), r1, by rw [e, e1]; simp, hr1, by rw [List.length_cons, List.drop_succ_cons, show ts.length + 1 - (i + 1) = ts.length - i by omega]; exact h3, fun x m c' us hx hu => ?_⟩
    obtain ⟨ts', hc, hr⟩ := hx1 x m c' us hx hu
    have hf : Lx.Fits r (p ++ x :: m) := by
      cases p with
      | nil => exact .inr fun y hy => by have : x = y := by simpa using hy
                                         subst this; exact hx
      | cons y p => exact .inl (by rw [e1]; rfl)
    refine ⟨⟨b.kind, b.text, b.n, (b.text ++ (p ++ x :: m)).length⟩ :: ts', by rw [List.take_succ_cons, List.map_cons, List.map_cons, hc]; rfl, ?_⟩
    rw [show i + 1 + c' = i + c' + 1 by omega, Lx.lexN_cons (ha.swap hf) (by rw [List.append_assoc, List.append_assoc, hm]), hr]; rfl

end Go.Proofs.YtjebepnphoeiaaaGreatDoor
namespace Go.Proofs.YtjebepnphoeiaaaGreatDoor
open Go.RowKit
set_option linter.unusedVariables false

theorem Lx.lex_codes {l : List UInt8} {n : Nat} {c : Int} (h : Lx.lex l = .bad n c) : c ≠ 0 := by
 have key : ∀ (k : Nat) (l : List UInt8), Lx.lexN k l = .bad n c → c ≠ 0 := by
  intro k
  induction k with
  | zero =>
   intro l h
   rw [Lx.lexN_eq] at h
   split at h
   ·
    cases h; decide
   ·
    split at h
    ·
     cases h
    ·
     split at h
     ·
      next e he => cases h; have := Lx.bad_codes he; omega
     ·
      cases h; decide
  | succ k ih =>
   intro l h
   rw [Lx.lexN_eq] at h
   split at h
   ·
    cases h; decide
   ·
    split at h
    ·
     cases h
    ·
     split at h
     ·
      next e he => cases h; have := Lx.bad_codes he; omega
     ·
      next a b _ =>
      simp only at h
      cases hR : Lx.lexN k ((Lx.skip l).1.drop (Lx.text (Lx.skip l).1).length) with
      | bad n2 c2 => rw [hR] at h; cases h; exact ih _ hR
      | good ts => rw [hR] at h; cases h
 unfold Lx.lex at h
 split at h
 ·
  cases h; decide
 ·
  exact key _ _ h
theorem Lx.lex_good {l : List UInt8} {ts : List Lx.Tok} (h : Lx.lex l = .good ts) : l.length ≤ 4096 ∧ ts.length ≤ 1024 ∧ Lx.lexN 1024 l = .good ts := by
 unfold Lx.lex at h
 split at h
 ·
  cases h
 ·
  exact ⟨by omega, Lx.lexN_len h, h⟩
theorem Lx.lex_of {l : List UInt8} {ts : List Lx.Tok} {c : Nat} (hl : l.length ≤ 4096) (h : Lx.lexN c l = .good ts) (ht : ts.length ≤ 1024) : Lx.lex l = .good ts := by
 unfold Lx.lex
 rw [if_neg (by omega)]
 exact Lx.lexN_mono h ht
theorem Lx.core_len {ts us : List Lx.Tok} (h : us.map Lx.Tok.core = ts.map Lx.Tok.core) : us.length = ts.length := by
 have := congrArg List.length h
 simpa using this
theorem lxApp (a b : ByteArray) : (a ++ b).data.toList = a.data.toList ++ b.data.toList := by rw [ByteArray.data_append, Array.toList_append]
theorem Lx.size_of {s : ByteArray} {l : List UInt8} (h : s.data.toList = l) : s.size = l.length := by rw [← h, Nm.len]

end Go.Proofs.YtjebepnphoeiaaaGreatDoor
namespace Go.Proofs
open Go.Shelf
def Tryz.lays156_ren : Go.Shelf.Ren := ⟨fun | 156 => 70 | 165 => 122 | 166 => 123 | 169 => 124 | 240 => 193 | 241 => 194 | 276 => 238 | 277 => 239 | n => n, fun | 31 => 22 | 9 => 9 | 3 => 3 | 4 => 4 | 0 => 0 | 20 => 20 | 72 => 155 | 76 => 157 | 70 => 152 | 37 => 153 | 75 => 149 | 127 => 200 | 164 => 235 | 5 => 5 | 80 => 92 | n => n, fun | n => n⟩
theorem Tryz.lays156 : Go.Proofs.Lays.n156 Tryz.prog Tryz.lays156_ren := {
 mixed := by kernel_rfl
 f156 := Tryz.func70.trans (congrArg some (by kernel_rfl))
 f165 := Tryz.func122.trans (congrArg some (by kernel_rfl))
 f166 := Tryz.func123.trans (congrArg some (by kernel_rfl))
 f169 := Tryz.func124.trans (congrArg some (by kernel_rfl))
 f240 := Tryz.func193.trans (congrArg some (by kernel_rfl))
 f241 := Tryz.func194.trans (congrArg some (by kernel_rfl))
 f276 := Tryz.func238.trans (congrArg some (by kernel_rfl))
 f277 := Tryz.func239.trans (congrArg some (by kernel_rfl))
 t0 := Tryz.underlying0
 a0 := Tryz.isAgg0
 z0 := Tryz.sizeOf0
 v0 := Tryz.zeroValue0
 t3 := Tryz.underlying3
 a3 := Tryz.isAgg3
 z3 := Tryz.sizeOf3
 v3 := Tryz.zeroValue3
 t4 := Tryz.underlying4
 a4 := Tryz.isAgg4
 z4 := Tryz.sizeOf4
 v4 := Tryz.zeroValue4
 t9 := Tryz.underlying9
 a9 := Tryz.isAgg9
 z9 := Tryz.sizeOf9
 v9 := Tryz.zeroValue9
 t20 := Tryz.underlying20
 a20 := Tryz.isAgg20
 z20 := Tryz.sizeOf20
 v20 := Tryz.zeroValue20
 t31 := Tryz.underlying22
 a31 := Tryz.isAgg22
 z31 := Tryz.sizeOf22
 v31 := Tryz.zeroValue22
 t37 := Tryz.underlying153
 a37 := Tryz.isAgg153
 z37 := Tryz.sizeOf153
 v37 := Tryz.zeroValue153
 t70 := Tryz.underlying152
 a70 := Tryz.isAgg152
 z70 := Tryz.sizeOf152
 v70 := Tryz.zeroValue152
 t72 := Tryz.underlying155
 a72 := Tryz.isAgg155
 z72 := Tryz.sizeOf155
 v72 := Tryz.zeroValue155
 t75 := Tryz.underlying149
 a75 := Tryz.isAgg149
 z75 := Tryz.sizeOf149
 v75 := Tryz.zeroValue149
 t76 := Tryz.underlying157
 a76 := Tryz.isAgg157
 z76 := Tryz.sizeOf157
 v76 := Tryz.zeroValue157
 t127 := Tryz.underlying200
 a127 := Tryz.isAgg200
 z127 := Tryz.sizeOf200
 v127 := Tryz.zeroValue200
 t164 := Tryz.underlying235
 a164 := Tryz.isAgg235
 z164 := Tryz.sizeOf235
 v164 := Tryz.zeroValue235 }
theorem Tryz.Builder_Extra_156 : Builder.Extra Tryz.prog Tryz.lays156_ren := {
 sizeBuilder := by kernel_rfl
 liesBuilder := by kernel_rfl
 t5 := Tryz.underlying5
 a5 := Tryz.isAgg5
 z5 := Tryz.sizeOf5
 v5 := Tryz.zeroValue5
 infoByte := by kernel_rfl
 cellsByte := by kernel_rfl
 sizeByte := by kernel_rfl
 neB5 := by decide }
open Go.RowKit in
open Go.RowKit in
theorem Tryz.strings_Join (bk o c : Nat) (xs : List ByteArray) (sep : ByteArray) (w : World) (hcells : ∀ (j : Nat) x, xs[j]? = some x → w.cell? ⟨bk, o + j, none⟩ = some (.string x)) (hbk : bk < w.heap.size) (hN : xs.length ≤ 140737488355328) (hcap : xs.length ≤ c) (hlen : (Lib.join (xs.map (·.data.toList)) sep.data.toList).length ≤ 140737488355328) :
  Calls Tryz.prog 70 #[.slice (some ⟨bk, o, none⟩) xs.length c, .string sep] w fun e w' => e = .returned (.string ⟨(Lib.join (xs.map (·.data.toList)) sep.data.toList).toArray⟩) ∧ Below w.heap.size w w' := Any.strings_Join Tryz.lays156 Tryz.Builder_Extra_156 bk o c xs sep w hcells hbk hN hcap hlen
end Go.Proofs
namespace Go.Proofs.YtjebepnphoeiaaaGreatDoor
open Go.RowKit
set_option linter.unusedVariables false

theorem info_str : (Tryz.prog.info? 9).map (fun i => (i.zero, i.size, i.bytes)) = some (some (.string ⟨#[]⟩), 1, 16) := by kernel_rfl
def Lv.joined (xs : List Lv) : List UInt8 := Lib.join (xs.map fun x => x.text.data.toList) [32]

set_option maxHeartbeats 2000000 in
theorem lxJoin_any (v : Value) (xs : List Lv) (w : World) (h : LvAt w v xs) (hn : xs.length ≤ 8796093022208) (hj : (Lv.joined xs).length ≤ 140737488355328) :
  Calls Tryz.prog 25 #[v] w fun e w' => e = .returned (.string ⟨(Lv.joined xs).toArray⟩) ∧ Below w.heap.size w w' := by
 obtain ⟨i0, hi, hz0, hz1, hz2⟩ := info_parts info_str
 obtain ⟨va, vc, hvf⟩ := h.form
 have hcells : ∀ i t, xs[i]? = some t → ∃ g o c, v = .slice (some ⟨g, o, none⟩) xs.length c ∧ g < w.heap.size ∧ w.cell? ⟨g, o + i * 4, none⟩ = some (.int .i64 t.kind) ∧ w.cell? ⟨g, o + i * 4 + 1, none⟩ = some (.string t.text) ∧ w.cell? ⟨g, o + i * 4 + 2, none⟩ = some (.int .i64 t.n) ∧ w.cell? ⟨g, o + i * 4 + 3, none⟩ = some (.int .i64 t.place) := by
  intro i t ht
  rcases h with ⟨rfl, -⟩ | ⟨g, o, c, hv, hg, hc⟩
  ·
   cases i <;> cases ht
  ·
   obtain ⟨h0, h1, h2, h3⟩ := hc i t ht
   exact ⟨g, o, c, hv, hg, h0, h1, h2, h3⟩
 subst hvf
 have hb2 : i0.bytes * xs.length ≤ 281474976710656 := by rw [hz2]; omega
 clear h
 go_enter Tryz.func25, Tryz.ntmps25
 go_upto_region 2 with (at_make; refine wpList_make_full _ rfl _ _ 22 rfl w.heap.size 9 i0 (.string ⟨#[]⟩) 1 Tryz.underlying22 hi hz0 hz1 _ _ _ _ xs.length rfl rfl rfl rfl hb2 (by unfold maxLen; omega) (Nat.le_refl _) ?_; intro w1 hown1 hgrow1)
 have hB1 : Below w.heap.size w w1 := (Below.refl _ _).grown hgrow1 (Nat.le_refl _) (fun k hk => by cases hk)
 have hml : (madeCells (Value.string ⟨#[]⟩).cells (xs.length * 1)).toList.length = xs.length := by have := hown1.1; omega
 go_wp2
 go_loopw [11] (fun u wr => ∃ (k : Nat) (cs : List Value), u = .int .i64 k ∧ k ≤ xs.length ∧ cs.length = xs.length ∧ (∀ j x, j < k → xs[j]? = some x → cs[j]? = some (.string x.text)) ∧ wr.ownsRow w.heap.size 9 1 (.slice (some ⟨w.heap.size, 0, none⟩) xs.length xs.length) xs.length cs ∧ Below w.heap.size w wr) (fun u _ => xs.length - (intOf u).toNat)
 case atStart => exact ⟨0, _, rfl, Nat.zero_le _, hml, fun j x hj => absurd hj (Nat.not_lt_zero _), hown1, hB1⟩
 case round =>
  obtain ⟨k, cs, rfl, hk, hcl, hcs, hrow, hB⟩ := hrel
  by_cases hlt : k < xs.length
  ·
   obtain ⟨x, hx⟩ : ∃ x, xs[k]? = some x := ⟨_, List.getElem?_eq_getElem hlt⟩
   obtain ⟨g, o, c, hv, hg, x0, x1, x2, x3⟩ := hcells k x hx
   injection hv with e1 _ e2
   subst e1; subst e2
   rw [← hB.cell hg] at x0 x1 x2 x3
   have hrow2 := hrow.alloc (.cells #[.int .i64 x.kind, .string x.text, .int .i64 x.n, .int .i64 x.place] 95)
   obtain ⟨hst, hgr⟩ := hrow2.stored k (.string x.text)
   have hfz : (wr.alloc (.cells #[.int .i64 x.kind, .string x.text, .int .i64 x.n, .int .i64 x.place] 95)).frozen? ⟨w.heap.size, k, none⟩ = false := hrow2.frozenAt k
   obtain ⟨u0, hu0⟩ : ∃ u0, (wr.alloc (.cells #[.int .i64 x.kind, .string x.text, .int .i64 x.n, .int .i64 x.place] 95)).cell? ⟨w.heap.size, k, none⟩ = some u0 := by
    rw [hrow2.cellAt k (by omega)]; exact ⟨_, List.getElem?_eq_getElem (by omega)⟩
   have HC : Hid (∀ j y, j < k + 1 → xs[j]? = some y → (cs.set k (.string x.text))[j]? = some (.string y.text)) := fun j y hj hy => by
    rw [List.getElem?_set]
    by_cases e : k = j
    ·
     subst e
     rw [if_pos rfl, if_pos (by omega)]
     rw [hx] at hy; cases hy; rfl
    ·
     rw [if_neg e]; exact hcs j y (by omega) hy
   have hne : ¬ (⟨w.heap.size, k, none⟩ : Addr).block = wr.heap.size := by
    have := (hrow.lt w.heap.size rfl).2
    show ¬ w.heap.size = wr.heap.size; omega
   clear hcells hcs hB1 hgrow1 hown1
   go_wp2
   go_roundw
   case rel => exact ⟨k + 1, cs.set k (.string x.text), by go_num, by omega, by rw [List.length_set]; exact hcl, HC.out, hst, (hB.alloc hB.size _).grown hgr (by have := hB.size; simp; omega) (fun j hj => by cases hj; exact Nat.le_refl _)⟩
   case measure => simp [intOf]; omega
  ·
   have hall : ∀ (j : Nat) x, (xs.map Lv.text)[j]? = some x → wr.cell? ⟨w.heap.size, 0 + j, none⟩ = some (.string x) := by
    intro j x hx
    rw [List.getElem?_map] at hx
    cases hy : xs[j]? with
    | none => rw [hy] at hx; cases hx
    | some y =>
     rw [hy] at hx
     obtain rfl : y.text = x := by simpa using hx
     have hjl := (List.getElem?_eq_some_iff.1 hy).1
     rw [Nat.zero_add, hrow.cellAt j (by omega)]
     exact hcs j y (by omega) hy
   have hJ : ((xs.map Lv.text).map fun x => x.data.toList) = xs.map fun x => x.text.data.toList := by rw [List.map_map]; rfl
   have c1 := Tryz.strings_Join w.heap.size 0 xs.length (xs.map Lv.text) ⟨#[32]⟩ wr hall (hrow.lt _ rfl).2 (by rw [List.length_map]; omega) (by rw [List.length_map]; exact Nat.le_refl _) (by rw [hJ]; exact hj)
   rw [List.length_map, hJ] at c1
   clear hcells hcs hB1 hgrow1 hown1 hall hJ
   go_wp2_with (go_at_call 70; refine c1.mono ?_; rintro e w2 ⟨rfl, hb2⟩)
   go_ret
   exact ⟨rfl, lxTr hB hb2⟩
theorem Lx.joinL_eq : ∀ (xs : List (List UInt8)), Lib.join xs [32] = Lx.joinL xs
 | [] => rfl
 | [t] => Lib.join_one _ _
 | t :: u :: r => by
  have ih := Lx.joinL_eq (u :: r)
  rw [Lib.join_cons] at ih ⊢
  show _ = t ++ 32 :: Lx.joinL (u :: r)
  rw [← ih]
  unfold Lib.joinTail
  simp
theorem Lx.join_len : ∀ (ts : List Lx.Tok) (c : Nat) (l : List UInt8), Lx.lexN c l = .good ts → (Lx.joinL (ts.map Lx.Tok.text)).length ≤ 2 * l.length
 | [], c, l, h => by simp [Lx.joinL]
 | [a], c, l, h => by
  obtain ⟨q, r, c0, rfl, e, hm, hl, ha, h2⟩ := Lx.lexN_uncons h
  have : l.length = q.length + (a.text.length + r.length) := by rw [e, List.length_append, List.length_append]
  show a.text.length ≤ _; omega
 | a :: b :: ts, c, l, h => by
  obtain ⟨q, r, c0, rfl, e, hm, hl, ha, h2⟩ := Lx.lexN_uncons h
  have ih := Lx.join_len (b :: ts) c0 r h2
  have : l.length = q.length + (a.text.length + r.length) := by rw [e, List.length_append, List.length_append]
  have hp := ha.pos
  show (a.text ++ 32 :: Lx.joinL ((b :: ts).map Lx.Tok.text)).length ≤ _
  rw [List.length_append, List.length_cons]; omega

set_option linter.unusedSimpArgs false
def Gr.Wr.code : Gr.Wr → Int
 | .node _ => 0
 | .err _ c => c
def Gr.Wr.pos : Gr.Wr → Int
 | .node _ => 0
 | .err p _ => p
def Gr.noExp : Nd := Gr.expN 0 0 0 [] [] [] [] []
def Gr.Wr.exp : Gr.Wr → Nd
 | .node nd => nd
 | .err _ _ => Gr.noExp
theorem Gr.noExp_at (w : World) (K : Nat → Prop) : At w K 1 2 [.int .i64 0, .int .i64 0, .int .i64 0, .slice none 0 0, .slice none 0 0, .slice none 0 0, .slice none 0 0, .slice none 0 0] Gr.noExp := At.exp_mk (n := 0) (by decide) (by decide) (by decide) (Tx.none0 ..) (fun x hx => by cases hx) (Nat.zero_le _) (AtL.none0 ..) (AtL.none0 ..) (AtL.none0 ..) (AtL.none0 ..)
theorem gr_Exp_any (s : ByteArray) (hs : s.size ≤ maxLen) (w : World) (hE : Er w) (R : Gr.Wr) (hR : Gr.whole .exp Nd.rightX s.data.toList = R) :
  Calls Tryz.prog 9 #[.string s] w fun e w' => (∃ vs n, e = .returned (.tuple #[.agg vs.toArray, .int .i64 R.pos, .int .i64 R.code]) ∧ At w' Any n 2 vs R.exp) ∧ Below w.heap.size w w' := by
 have h := gr_Exp s hs w hE
 rw [hR] at h
 refine h.mono ?_
 cases R with
 | node nd =>
  rintro e w' ⟨⟨vs, n, he, ha⟩, hb⟩
  exact ⟨⟨vs, n, he, At.move (Keeps.refl _ _) (fun _ _ => trivial) _ _ _ _ ha⟩, hb⟩
 | err p c =>
  rintro e w' ⟨he, hb⟩
  exact ⟨⟨[.int .i64 0, .int .i64 0, .int .i64 0, .slice none 0 0, .slice none 0 0, .slice none 0 0, .slice none 0 0, .slice none 0 0], 1, he, Gr.noExp_at _ _⟩, hb⟩
theorem At.anyB {w w' : World} {n s : Nat} {vs : List Value} {nd : Nd} (h : At w Any n s vs nd) (hb : Below w.heap.size w w') : At w' Any n s vs nd := At.move (Keeps.of_below hb) (fun _ h => h) _ _ _ _ h
theorem sameExp_any (n m : Nat) (w : World) (va vb : List Value) (A B : Nd) (ha : At w Any n 2 va A) (hb : At w Any m 2 vb B) :
  Calls Tryz.prog 11 #[.agg va.toArray, .agg vb.toArray] w fun e w' => e = .returned (.bool (Nd.eq A B)) ∧ Below w.heap.size w w' :=
 refOne2 (max n m) w va vb A B (At.le ha (Nat.le_max_left _ _)) (At.le hb (Nat.le_max_right _ _))
theorem Nd.eq_self (A : Nd) : Nd.eq A A = true := Nd.eq_true.2 rfl
theorem Gr.like_of_core {ts us : List Lx.Tok} (h : us.map Lx.Tok.core = ts.map Lx.Tok.core) : Gr.Like ts us := h.symm
theorem Gr.whole_like {nt : Gr.Nt} {right : Nd → Int} {l m : List UInt8} {ts us : List Lx.Tok} (hl : Lx.lex l = .good ts) (hm : Lx.lex m = .good us) (h : Gr.Like ts us) :
  (Gr.whole nt right l).code = (Gr.whole nt right m).code ∧ (Gr.whole nt right l).exp = (Gr.whole nt right m).exp := by
 unfold Gr.whole
 rw [hl, hm]
 simp only
 have hk := Gr.like Gr.enough nt ts us h
 cases h1 : Gr.g Gr.enough nt ts with
 | out =>
  rw [h1] at hk
  cases h2 : Gr.g Gr.enough nt us with
  | out => exact ⟨rfl, rfl⟩
  | ok v r => rw [h2] at hk; exact hk.elim
  | bad r c => rw [h2] at hk; exact hk.elim
 | bad r c =>
  rw [h1] at hk
  cases h2 : Gr.g Gr.enough nt us with
  | out => rw [h2] at hk; exact hk.elim
  | ok v r => rw [h2] at hk; exact hk.elim
  | bad q d => rw [h2] at hk; exact ⟨hk.1, rfl⟩
 | ok v r =>
  rw [h1] at hk
  cases h2 : Gr.g Gr.enough nt us with
  | out => rw [h2] at hk; exact hk.elim
  | bad q d => rw [h2] at hk; exact hk.elim
  | ok u q =>
   rw [h2] at hk
   obtain ⟨rfl, hr⟩ := hk
   rcases hr.cases with ⟨rfl, rfl⟩ | ⟨t, r', t2, q', rfl, rfl, -⟩
   ·
    exact ⟨rfl, rfl⟩
   ·
    exact ⟨rfl, rfl⟩

set_option maxHeartbeats 4000000 in
set_option maxRecDepth 100000 in
theorem tokens_walk (s : ByteArray) (hs : s.size ≤ maxLen) (w : World) (hE : Er w) :
  Calls Tryz.prog 7 #[.string s] w fun e w' => e = .returned (.bool true) ∧ Below w.heap.size w w' := by
 have HE : Hid (∀ W, Below w.heap.size w W → Er W) := fun W h => hE.below h (Nat.le_refl _)
 cases hR : Lx.lex s.data.toList with
 | bad n c =>
  have hc := Lx.lex_codes hR
  have c1 : Hid (Calls Tryz.prog 24 #[.string s] w fun e w' => e = .returned (.tuple #[.slice none 0 0, .int .i64 ((s.size - n : Nat) : Int), .int .i64 c]) ∧ Below w.heap.size w w') := lxLex_bad s hs w hE hR
  have cj : Hid (∀ W, Calls Tryz.prog 25 #[.slice none 0 0] W fun e w' => e = .returned (.string ⟨(Lv.joined []).toArray⟩) ∧ Below W.heap.size W w') := fun W => lxJoin_any _ [] W (.inl ⟨rfl, _, _, rfl⟩) (Nat.zero_le _) (by show 0 ≤ _; omega)
  generalize ((s.size - n : Nat) : Int) = p at *
  generalize (⟨(Lv.joined []).toArray⟩ : ByteArray) = t at *
  have hcb : (c == 0) = false := by simpa using hc
  clear hs hR hE
  go_enter Tryz.func7, Tryz.ntmps7
  go_wp2_with (first
   | (go_at_call 24; refine c1.out.mono ?_; rintro e w1 ⟨rfl, hb1⟩)
   | (go_at_call 25; refine (cj.out _).mono ?_; rintro e w2 ⟨rfl, hb2⟩)
   | (go_at_call 12; refine (parseAlive _ (HE.out _ (bl_tr hb1 hb2))).mono ?_; rintro e w3 ⟨rfl, hb3⟩))
  go_ret
  exact ⟨rfl, bl_tr (bl_tr hb1 hb2) hb3⟩
 | good ts =>
  obtain ⟨hL4, hlen, hN⟩ := Lx.lex_good hR
  have c1 : Hid (Calls Tryz.prog 24 #[.string s] w fun e w' => (∃ v, e = .returned (.tuple #[v, .int .i64 0, .int .i64 0]) ∧ w'.ownsRow w.heap.size 95 4 v ts.length (ts.flatMap (Lx.cells s.size))) ∧ Below w.heap.size w w') := lxLex_good s hs w hE hR
  have hjoin : Lv.joined (ts.map (Lx.tv s.size)) = Lx.joinL (ts.map Lx.Tok.text) := by
   unfold Lv.joined
   rw [Lx.joinL_eq, List.map_map]
   congr 1
  have hjl := Lx.join_len ts 1024 _ hN
  obtain ⟨us, hcore, hus⟩ := Lx.back ts 1024 _ hN
  obtain ⟨t, ht⟩ : ∃ t : ByteArray, t = ⟨(Lv.joined (ts.map (Lx.tv s.size))).toArray⟩ := ⟨_, rfl⟩
  have htl : t.data.toList = Lx.joinL (ts.map Lx.Tok.text) := by rw [ht, hjoin]
  have hts : t.size = (Lx.joinL (ts.map Lx.Tok.text)).length := Lx.size_of htl
  have cj : Hid (∀ v W, LvAt W v (ts.map (Lx.tv s.size)) → Calls Tryz.prog 25 #[v] W fun e w' => e = .returned (.string t) ∧ Below W.heap.size W w') := fun v W h => by rw [ht]; exact lxJoin_any v (ts.map (Lx.tv s.size)) W h (by rw [List.length_map]; omega) (by rw [hjoin]; omega)
  have htm : t.size ≤ maxLen := by unfold maxLen; omega
  have hul := Lx.core_len hcore
  by_cases hbig : 4096 < t.size
  ·
   clear hs hR hN hjoin hjl hcore hus ht htl hts htm hul hE
   go_enter Tryz.func7, Tryz.ntmps7
   go_wp2_with (first
    | (go_at_call 24; refine c1.out.mono ?_; rintro e w1 ⟨⟨v, rfl, hrow⟩, hb1⟩)
    | (go_at_call 25; refine (cj.out _ _ (LvAt.of_own hrow)).mono ?_; rintro e w2 ⟨rfl, hb2⟩)
    | (go_at_call 12; refine (parseAlive _ (HE.out _ (bl_tr hb1 hb2))).mono ?_; rintro e w3 ⟨rfl, hb3⟩))
   go_ret
   exact ⟨rfl, bl_tr (bl_tr hb1 hb2) hb3⟩
  ·
   have hlt : Lx.lex t.data.toList = .good us := Lx.lex_of (by rw [Nm.len]; omega) (by rw [htl]; exact hus) (by rw [hul]; exact hlen)
   obtain ⟨hcd, hnd⟩ := Gr.whole_like (nt := .exp) (right := Nd.rightX) hR hlt (Gr.like_of_core hcore)
   obtain ⟨RS, hRS⟩ : ∃ R, Gr.whole .exp Nd.rightX s.data.toList = R := ⟨_, rfl⟩
   obtain ⟨RT, hRT⟩ : ∃ R, Gr.whole .exp Nd.rightX t.data.toList = R := ⟨_, rfl⟩
   rw [hRS, hRT] at hcd hnd
   obtain ⟨c, hc⟩ : ∃ c, RS.code = c := ⟨_, rfl⟩
   obtain ⟨nd, hn⟩ : ∃ nd, RS.exp = nd := ⟨_, rfl⟩
   obtain ⟨p1, hp1⟩ : ∃ p, RS.pos = p := ⟨_, rfl⟩
   obtain ⟨p2, hp2⟩ : ∃ p, RT.pos = p := ⟨_, rfl⟩
   have ce : Hid (∀ W, Er W → Calls Tryz.prog 9 #[.string s] W fun e w' => (∃ vs n, e = .returned (.tuple #[.agg vs.toArray, .int .i64 p1, .int .i64 c]) ∧ At w' Any n 2 vs nd) ∧ Below W.heap.size W w') := fun W h => by rw [← hc, ← hn, ← hp1]; exact gr_Exp_any s hs W h RS hRS
   have cf : Hid (∀ W, Er W → Calls Tryz.prog 9 #[.string t] W fun e w' => (∃ vs n, e = .returned (.tuple #[.agg vs.toArray, .int .i64 p2, .int .i64 c]) ∧ At w' Any n 2 vs nd) ∧ Below W.heap.size W w') := fun W h => by rw [← hc, hcd, ← hn, hnd, ← hp2]; exact gr_Exp_any t htm W h RT hRT
   have hse := Nd.eq_self nd
   clear hs hR hN hjoin hjl hcore hus ht htl hts htm hul hE hlt hcd hnd hRS hRT hc hn hp1 hp2
   go_enter Tryz.func7, Tryz.ntmps7
   go_wp2_with (first
    | (go_at_call 24; refine c1.out.mono ?_; rintro e w1 ⟨⟨v, rfl, hrow⟩, hb1⟩)
    | (go_at_call 25; refine (cj.out _ _ (LvAt.of_own hrow)).mono ?_; rintro e w2 ⟨rfl, hb2⟩; have hB2 := bl_tr hb1 hb2; clear hrow hb1 hb2 cj c1)
    | (go_at_call 9; have _ := m1; refine (cf.out _ (HE.out _ (bl_alloc hB3 _))).mono ?_; rintro e w4 ⟨⟨vb, nb, rfl, hy⟩, hb4⟩; obtain ⟨yi, yj, yk, ya, yn, yc, yd0, ym0, ye0, yd1, ym1, ye1, yd2, ym2, ye2, yd3, ym3, ye3, rfl⟩ := hy.exp_form; have hx4 : Hid (At (w4.alloc (.cells #[.int .i64 yi, .int .i64 yj, .int .i64 yk, .slice ya yn yc, .slice yd0 ym0 ye0, .slice yd1 ym1 ye1, .slice yd2 ym2 ye2, .slice yd3 ym3 ye3] 28)) Any na 2 [.int .i64 xi, .int .i64 xj, .int .i64 xk, .slice xa xn xc, .slice xd0 xm0 xe0, .slice xd1 xm1 xe1, .slice xd2 xm2 xe2, .slice xd3 xm3 xe3] nd) := (hx3.out.anyB hb4).anyB (bl_new _ _); have hy4 : Hid (At (w4.alloc (.cells #[.int .i64 yi, .int .i64 yj, .int .i64 yk, .slice ya yn yc, .slice yd0 ym0 ye0, .slice yd1 ym1 ye1, .slice yd2 ym2 ye2, .slice yd3 ym3 ye3] 28)) Any nb 2 [.int .i64 yi, .int .i64 yj, .int .i64 yk, .slice ya yn yc, .slice yd0 ym0 ye0, .slice yd1 ym1 ye1, .slice yd2 ym2 ye2, .slice yd3 ym3 ye3] nd) := hy.anyB (bl_new _ _); have hB4 := bl_alloc (bl_tr (bl_alloc hB3 (.cells #[.int .i64 xi, .int .i64 xj, .int .i64 xk, .slice xa xn xc, .slice xd0 xm0 xe0, .slice xd1 xm1 xe1, .slice xd2 xm2 xe2, .slice xd3 xm3 xe3] 28)) hb4) (.cells #[.int .i64 yi, .int .i64 yj, .int .i64 yk, .slice ya yn yc, .slice yd0 ym0 ye0, .slice yd1 ym1 ye1, .slice yd2 ym2 ye2, .slice yd3 ym3 ye3] 28); obtain ⟨⟨ak0, ak1, ak2, ak3, ak4, ak5, ak6, ak7⟩, -⟩ := ((hm3.out.below hb4).below (bl_new w4 (.cells #[.int .i64 yi, .int .i64 yj, .int .i64 yk, .slice ya yn yc, .slice yd0 ym0 ye0, .slice yd1 ym1 ye1, .slice yd2 ym2 ye2, .slice yd3 ym3 ye3] 28))).e8; obtain ⟨⟨bk0, bk1, bk2, bk3, bk4, bk5, bk6, bk7⟩, -⟩ := (Bx.new w4 [.int .i64 yi, .int .i64 yj, .int .i64 yk, .slice ya yn yc, .slice yd0 ym0 ye0, .slice yd1 ym1 ye1, .slice yd2 ym2 ye2, .slice yd3 ym3 ye3] 28).e8; clear hy hb4 m1)
    | (go_at_call 9; refine (ce.out _ (HE.out _ hB2)).mono ?_; rintro e w3 ⟨⟨va, na, rfl, hx⟩, hb3⟩; obtain ⟨xi, xj, xk, xa, xn, xc, xd0, xm0, xe0, xd1, xm1, xe1, xd2, xm2, xe2, xd3, xm3, xe3, rfl⟩ := hx.exp_form; have hx3 : Hid (At (w3.alloc (.cells #[.int .i64 xi, .int .i64 xj, .int .i64 xk, .slice xa xn xc, .slice xd0 xm0 xe0, .slice xd1 xm1 xe1, .slice xd2 xm2 xe2, .slice xd3 xm3 xe3] 28)) Any na 2 [.int .i64 xi, .int .i64 xj, .int .i64 xk, .slice xa xn xc, .slice xd0 xm0 xe0, .slice xd1 xm1 xe1, .slice xd2 xm2 xe2, .slice xd3 xm3 xe3] nd) := hx.anyB (bl_new _ _); have hB3 := bl_tr hB2 hb3; have hm3 := hid (Bx.new w3 [.int .i64 xi, .int .i64 xj, .int .i64 xk, .slice xa xn xc, .slice xd0 xm0 xe0, .slice xd1 xm1 xe1, .slice xd2 xm2 xe2, .slice xd3 xm3 xe3] 28); have m1 := True.intro; clear hx hb3 ce)
    | (go_at_call 11; refine (sameExp_any na nb _ [.int .i64 xi, .int .i64 xj, .int .i64 xk, .slice xa xn xc, .slice xd0 xm0 xe0, .slice xd1 xm1 xe1, .slice xd2 xm2 xe2, .slice xd3 xm3 xe3] [.int .i64 yi, .int .i64 yj, .int .i64 yk, .slice ya yn yc, .slice yd0 ym0 ye0, .slice yd1 ym1 ye1, .slice yd2 ym2 ye2, .slice yd3 ym3 ye3] nd nd hx4.out hy4.out).mono ?_; rw [hse]; rintro e w5 ⟨rfl, hb5⟩; have hB5 := bl_tr hB4 hb5)
    | (go_at_call 12; refine (parseAlive _ (HE.out _ hB5)).mono ?_; rintro e w6 ⟨rfl, hb6⟩))
   go_ret
   exact ⟨rfl, bl_tr hB5 hb6⟩
end Go.Proofs.YtjebepnphoeiaaaGreatDoor
namespace Go.Proofs.YtjebepnphoeiaaaGreatDoor
set_option linter.unusedVariables false

theorem Lx.mark1 {c : UInt8} {r : List UInt8} (hb : Lx.blank (c.toNat : Int) = false) (ho : Lx.opens (c :: r) = false) (hg : Lx.begin (c :: r) = (6, 1)) : Lx.At [c] r 6 0 := by
 have ht : Lx.text ([c] ++ r) = [c] := by
  show Lx.text (c :: r) = [c]
  unfold Lx.text
  rw [hg]
  have : (r.takeWhile (Lx.goes 6)) = [] := by
   cases r with
   | nil => rfl
   | cons x r => rw [List.takeWhile_cons]; rfl
  simp [this]
 refine ⟨Lx.skip_stop hb ho, ?_, ht, Nat.le_refl _⟩
 show Lx.next (c :: r) = _
 unfold Lx.next
 rw [hg]
 rfl
theorem Lx.mk41 (r : List UInt8) : Lx.At [41] r 6 0 := Lx.mark1 (by decide) (by unfold Lx.opens; cases r <;> rfl) (by rw [Lx.begin_cons, Lx.mark_cons]; rfl)
theorem Lx.mk42 (r : List UInt8) : Lx.At [42] r 6 0 := Lx.mark1 (by decide) (by unfold Lx.opens; cases r <;> rfl) (by rw [Lx.begin_cons, Lx.mark_cons]; rfl)
theorem Lx.mk40 {r : List UInt8} (h : r.head? ≠ some 42) : Lx.At [40] r 6 0 := Lx.mark1 (by decide) (by
 unfold Lx.opens
 cases r with
 | nil => rfl
 | cons x r =>
  have hx : x ≠ 42 := fun e => h (by rw [e]; rfl)
  show ([40, x] == [40, 42]) = false
  simp [hx]) (by rw [Lx.begin_cons, Lx.mark_cons]; rfl)
theorem Lx.lexN_short : ∀ {ts : List Lx.Tok} {k : Nat} {l : List UInt8}, Lx.lexN k l = .good ts → ∀ {c : Nat}, c < ts.length → ∃ n, Lx.lexN c l = .bad n 3
 | [], k, l, h, c, hc => absurd hc (Nat.not_lt_zero _)
 | a :: ts, k, l, h, 0, hc => by
  obtain ⟨q, r, c0, rfl, e, hm, hl, ha, h2⟩ := Lx.lexN_uncons h
  refine ⟨(a.text ++ r).length, ?_⟩
  rw [e, Lx.lexN_skip (hm _), Lx.lexN_eq, ha.stop]
  simp only
  rw [if_neg (by simp), if_neg (by intro e; have h9 := ha.pos; have h8 := congrArg List.length e; rw [List.length_append, List.length_nil] at h8; omega), ha.next]
 | a :: ts, k, l, h, c + 1, hc => by
  obtain ⟨q, r, c0, rfl, e, hm, hl, ha, h2⟩ := Lx.lexN_uncons h
  obtain ⟨n, hn⟩ := Lx.lexN_short h2 (c := c) (by simp at hc; omega)
  exact ⟨n, by rw [Lx.lexN_cons ha (by rw [e, hm]) c, hn]; rfl⟩
theorem Lx.lex_cases {k : Nat} {l : List UInt8} {ts : List Lx.Tok} (h : Lx.lexN k l = .good ts) : (Lx.lex l = .good ts ∧ ts.length ≤ 1024) ∨ ∃ n, Lx.lex l = .bad n 3 := by
 unfold Lx.lex
 split
 ·
  exact .inr ⟨_, rfl⟩
 ·
  by_cases hl : ts.length ≤ 1024
  ·
   exact .inl ⟨Lx.lexN_mono h hl, hl⟩
  ·
   exact .inr (Lx.lexN_short h (by omega))
def Gr.begX (ts : Gr.Ts) : Bool := Gr.isT [102, 110] ts || (Gr.isT [105, 102] ts || Gr.begE ts)
theorem Gr.exp_beg {f : Nat} {ts r : Gr.Ts} {v : Nd} (h : Gr.g f .exp ts = .ok v r) : Gr.begX ts = true := by
 have hno : ∀ f, Gr.begE ts = false → ∀ v r, Gr.g f .app ts ≠ .ok v r := fun f hb v r e => by
  cases f with
  | zero => cases e
  | succ f =>
   rw [show Gr.g (f + 1) .app ts = (if Gr.begE ts = true then (Gr.g f .atom ts).bind fun a r => Gr.g f (.appGo a) r else .bad ts 11) from rfl, hb, if_neg (by simp)] at e
   cases e
 have hbi : ∀ {a : Gr.Res} {k : Nd → Gr.Ts → Gr.Res} {v : Nd} {r : Gr.Ts}, a.bind k = .ok v r → ∃ u q, a = .ok u q := fun {a k v r} e => by
  cases a with
  | ok u q => exact ⟨u, q, rfl⟩
  | bad q c => cases e
  | out => cases e
 unfold Gr.begX
 cases h1 : Gr.isT [102, 110] ts with
 | true => rfl
 | false =>
  cases h2 : Gr.isT [105, 102] ts with
  | true => rfl
  | false =>
   cases h3 : Gr.begE ts with
   | true => rfl
   | false =>
    exfalso
    cases f with
    | zero => cases h
    | succ f =>
     unfold Gr.g at h
     simp only [h1, h2, Bool.false_eq_true, if_false] at h
     cases f with
     | zero => cases h
     | succ f =>
      rw [show Gr.g (f + 1) .cmp ts = (Gr.g f .sum ts).bind _ from rfl] at h
      obtain ⟨u1, q1, e1⟩ := hbi h
      cases f with
      | zero => cases e1
      | succ f =>
       rw [show Gr.g (f + 1) .sum ts = (Gr.g f .prod ts).bind _ from rfl] at e1
       obtain ⟨u2, q2, e2⟩ := hbi e1
       cases f with
       | zero => cases e2
       | succ f =>
        rw [show Gr.g (f + 1) .prod ts = (Gr.g f .app ts).bind _ from rfl] at e2
        obtain ⟨u3, q3, e3⟩ := hbi e2
        exact hno f h3 _ _ e3
theorem Gr.begX_mark {t : Lx.Tok} {r : Gr.Ts} (hk : t.kind = 6) (ht : t.text = [41] ∨ t.text = [42]) : Gr.begX (t :: r) = false := by
 rcases ht with ht | ht <;> simp [Gr.begX, Gr.begE, Gr.isT, Gr.kd, hk, ht]
theorem Gr.begX_41 {ts : Gr.Ts} (h : Gr.begX ts = true) : Gr.isT [41] ts = false := by
 cases ts with
 | nil => rfl
 | cons t r =>
  cases h1 : Gr.isT [41] (t :: r) with
  | false => rfl
  | true =>
   exfalso
   unfold Gr.isT at h1
   rw [Bool.and_eq_true, Bool.or_eq_true, decide_eq_true_iff, decide_eq_true_iff, decide_eq_true_iff] at h1
   obtain ⟨hk, ht⟩ := h1
   have : Gr.begX (t :: r) = false := by
    rcases hk with hk | hk <;> simp [Gr.begX, Gr.begE, Gr.isT, Gr.kd, hk, ht]
   rw [this] at h; cases h
theorem Gr.atom_paren {f n : Nat} {us r : Gr.Ts} {nd : Nd} (h : Gr.g (f + 1) .restExp us = .ok nd r) : Gr.g (f + 2) .atom (⟨6, [40], 0, n⟩ :: us) = .ok nd r := by
 rw [show Gr.g (f + 2) .atom (⟨6, [40], 0, n⟩ :: us) = Gr.g (f + 1) .restExp us from rfl]
 exact h
theorem Gr.exp_atom {f n : Nat} {us : Gr.Ts} {nd : Nd} (h : Gr.g (f + 2) .atom (⟨6, [40], 0, n⟩ :: us) = .ok nd []) : Gr.g (f + 7) .exp (⟨6, [40], 0, n⟩ :: us) = .ok nd [] := by
 have h1 : Gr.g (f + 3) .app (⟨6, [40], 0, n⟩ :: us) = .ok nd [] := by
  rw [show Gr.g (f + 3) .app (⟨6, [40], 0, n⟩ :: us) = (Gr.g (f + 2) .atom (⟨6, [40], 0, n⟩ :: us)).bind fun a r => Gr.g (f + 2) (.appGo a) r from rfl, h]
  rfl
 have h2 : Gr.g (f + 4) .prod (⟨6, [40], 0, n⟩ :: us) = .ok nd [] := by
  rw [show Gr.g (f + 4) .prod (⟨6, [40], 0, n⟩ :: us) = (Gr.g (f + 3) .app (⟨6, [40], 0, n⟩ :: us)).bind fun a r => Gr.g (f + 3) (.prodGo a) r from rfl, h1]
  rfl
 have h3 : Gr.g (f + 5) .sum (⟨6, [40], 0, n⟩ :: us) = .ok nd [] := by
  rw [show Gr.g (f + 5) .sum (⟨6, [40], 0, n⟩ :: us) = (Gr.g (f + 4) .prod (⟨6, [40], 0, n⟩ :: us)).bind fun a r => Gr.g (f + 4) (.sumGo a) r from rfl, h2]
  rfl
 have h4 : Gr.g (f + 6) .cmp (⟨6, [40], 0, n⟩ :: us) = .ok nd [] := by
  rw [show Gr.g (f + 6) .cmp (⟨6, [40], 0, n⟩ :: us) = (Gr.g (f + 5) .sum (⟨6, [40], 0, n⟩ :: us)).bind _ from rfl, h3]
  rfl
 rw [show Gr.g (f + 7) .exp (⟨6, [40], 0, n⟩ :: us) = Gr.g (f + 6) .cmp (⟨6, [40], 0, n⟩ :: us) from rfl]
 exact h4
theorem Gr.paren {f n m : Nat} {us : Gr.Ts} {nd : Nd} (h : Gr.g f .exp us = .ok nd [⟨6, [41], 0, m⟩]) : Gr.g (f + 7) .exp (⟨6, [40], 0, n⟩ :: us) = .ok nd [] := by
 refine Gr.exp_atom (Gr.atom_paren ?_)
 have h41 := Gr.begX_41 (Gr.exp_beg h)
 unfold Gr.g
 simp only [h41, Bool.false_eq_true, if_false]
 rw [h]
 rfl
theorem Gr.enough_of {k : Nat} {ts : Gr.Ts} {R : Gr.Res} (hl : ts.length ≤ 1024) (h : Gr.g (Gr.enough + k) .exp ts = R) : Gr.g Gr.enough .exp ts = R := by
 have hf := Gr.fine Gr.enough .exp ts (by unfold Gr.enough; simp only [Gr.Nt.rank]; omega)
 rw [← h]
 refine (Gr.more (fun e => ?_) (Nat.le_add_right _ _)).symm
 rw [e] at hf
 exact hf.elim
theorem Gr.Rl.ok {a b : Gr.Res} {v : Nd} {r : Gr.Ts} (h : Gr.Rl a b) (ha : a = .ok v r) : ∃ q, b = .ok v q ∧ Gr.Like r q := by
 subst ha
 cases b with
 | ok u q => obtain ⟨e, hr⟩ := h; exact ⟨q, by rw [e], hr⟩
 | bad q c => exact h.elim
 | out => exact h.elim
theorem Gr.like_nil {q : Gr.Ts} (h : Gr.Like [] q) : q = [] := by
 have := h.len
 exact List.eq_nil_of_length_eq_zero this.symm
theorem Gr.ahead {ts us z : Gr.Ts} {nd : Nd} (hz : Gr.Stop z) (hc : us.map Lx.Tok.core = ts.map Lx.Tok.core) (h : Gr.g Gr.enough .exp ts = .ok nd []) : Gr.g Gr.enough .exp (us ++ z) = .ok nd z := by
 obtain ⟨q, hq, hr⟩ := Gr.Rl.ok (Gr.like Gr.enough .exp ts us hc.symm) h
 obtain rfl := Gr.like_nil hr
 exact Gr.ext hz Gr.enough .exp us nd [] hq
end Go.Proofs.YtjebepnphoeiaaaGreatDoor
