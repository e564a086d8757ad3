/- Patterns and values: plain data, what fits what, and how they lie in memory. Patterns and values that came in. -/
import Derived.Test.YtjodgnkhociaaaaGreatRows
import Derived.WalkKit
import Derived.ProofKit
import Derived.OpenShut
import Derived.ShutString
import Derived.Carry
import Derived.Deep.Slices
import Derived.Test.YtjodgnkhociaaaaGreatQab
import Derived.Test.YtjodgnkhociaaaaGreatQac
import Derived.Test.YtjodgnkhociaaaaGreatQag
namespace Go.Proofs.YtjodgnkhociaaaaGreat
open Go.RowKit
set_option linter.unusedVariables false
set_option linter.unusedSimpArgs false

inductive Vl where
  | mk (k n : Int) (s : ByteArray) (ks : List Vl)
def Vl.k : Vl → Int | .mk a _ _ _ => a
def Vl.n : Vl → Int | .mk _ a _ _ => a
def Vl.s : Vl → ByteArray | .mk _ _ a _ => a
def Vl.ks : Vl → List Vl | .mk _ _ _ a => a
inductive Pt where
  | mk (k : Int) (s : ByteArray) (p : List ByteArray) (n : Int) (ks : List Pt)
def Pt.k : Pt → Int | .mk a _ _ _ _ => a
def Pt.s : Pt → ByteArray | .mk _ a _ _ _ => a
def Pt.p : Pt → List ByteArray | .mk _ _ a _ _ => a
def Pt.n : Pt → Int | .mk _ _ _ a _ => a
def Pt.ks : Pt → List Pt | .mk _ _ _ _ a => a
mutual
def Vl.cnt : Vl → Nat
  | .mk _ _ _ ks => Vl.cntL ks + 1
def Vl.cntL : List Vl → Nat
  | [] => 0
  | x :: r => x.cnt + Vl.cntL r
end
mutual
def Pt.cnt : Pt → Nat
  | .mk _ _ _ _ ks => Pt.cntL ks + 1
def Pt.cntL : List Pt → Nat
  | [] => 0
  | x :: r => x.cnt + Pt.cntL r
end
theorem Pt.cnt_ks (t : Pt) : t.cnt = Pt.cntL t.ks + 1 := by obtain ⟨k, s, p, n, ks⟩ := t; rw [Pt.cnt]; rfl
theorem Vl.cnt_ks (t : Vl) : t.cnt = Vl.cntL t.ks + 1 := by obtain ⟨k, n, s, ks⟩ := t; rw [Vl.cnt]; rfl
theorem Pt.cntL_len : ∀ l : List Pt, l.length ≤ Pt.cntL l
  | [] => Nat.le_refl _
  | x :: r => by rw [Pt.cntL, List.length_cons]; have := Pt.cntL_len r; have := Pt.cnt_ks x; omega
theorem Vl.cntL_len : ∀ l : List Vl, l.length ≤ Vl.cntL l
  | [] => Nat.le_refl _
  | x :: r => by rw [Vl.cntL, List.length_cons]; have := Vl.cntL_len r; have := Vl.cnt_ks x; omega
theorem Vl.cnt_mem : ∀ {l : List Vl} {x : Vl}, x ∈ l → x.cnt ≤ Vl.cntL l
  | y :: r, x, h => by
    rw [Vl.cntL]
    rcases List.mem_cons.1 h with rfl | h
    · omega
    · have := Vl.cnt_mem h; omega
theorem Pt.cnt_mem : ∀ {l : List Pt} {x : Pt}, x ∈ l → x.cnt ≤ Pt.cntL l
  | y :: r, x, h => by
    rw [Pt.cntL]
    rcases List.mem_cons.1 h with rfl | h
    · omega
    · have := Pt.cnt_mem h; omega
theorem Pt.cntL_drop : ∀ (l : List Pt) (i : Nat) (x : Pt), l[i]? = some x → Pt.cntL (l.drop i) = x.cnt + Pt.cntL (l.drop (i + 1))
  | [], i, x, h => by simp at h
  | y :: r, 0, x, h => by simp at h; subst h; simp [Pt.cntL]
  | y :: r, i + 1, x, h => by rw [List.drop_succ_cons, List.drop_succ_cons]; exact Pt.cntL_drop r i x (by simpa using h)

/-- What is bound, and does it fit? A pattern of a kind without Kids. -/
def aloneR (k : Int) (s : ByteArray) (n : Int) (v : Vl) : List (ByteArray × Vl) × Bool :=
  if k = 1 then ([], true) else if k = 2 then ([(s, v)], true) else if k = 3 then ([], decide (v.k = 1) && decide (v.n = n))
  else if k = 4 then ([], decide (v.k = 2) && decide (v.n = 1)) else if k = 5 then ([], decide (v.k = 2) && decide (v.n = 0)) else if k = 6 then ([], decide (v.k = 3)) else ([], false)
def lastIs (s : ByteArray) (p : List ByteArray) : Bool := decide (p.getLast? = some s)
mutual
/-- What is bound until it is known whether a pattern fits a value, and whether it does. -/
def fitR : Pt → Vl → List (ByteArray × Vl) × Bool
  | .mk k s p n ks, v =>
    if k = 7 then (if v.k = 4 ∧ ks.length = 2 ∧ ks.length = v.ks.length then fitL ks v.ks else ([], false))
    else if k = 8 then (if v.k = 5 ∧ lastIs v.s p = true ∧ ks.length < 2 ∧ ks.length = v.ks.length then fitL ks v.ks else ([], false))
    else if ks.length = 0 then aloneR k s n v else ([], false)
def fitL : List Pt → List Vl → List (ByteArray × Vl) × Bool
  | p :: ps, v :: vs => if (fitR p v).2 = true then ((fitR p v).1 ++ (fitL ps vs).1, (fitL ps vs).2) else ((fitR p v).1, false)
  | _, _ => ([], true)
end
theorem fitR_eq (p : Pt) (v : Vl) : fitR p v = if p.k = 7 then (if v.k = 4 ∧ p.ks.length = 2 ∧ p.ks.length = v.ks.length then fitL p.ks v.ks else ([], false))
    else if p.k = 8 then (if v.k = 5 ∧ lastIs v.s p.p = true ∧ p.ks.length < 2 ∧ p.ks.length = v.ks.length then fitL p.ks v.ks else ([], false))
    else if p.ks.length = 0 then aloneR p.k p.s p.n v else ([], false) := by obtain ⟨k, s, q, n, ks⟩ := p; rw [fitR]; rfl
theorem aloneR_len (k : Int) (s : ByteArray) (n : Int) (v : Vl) : (aloneR k s n v).1.length ≤ 1 := by unfold aloneR; (repeat' split) <;> simp
mutual
theorem fitR_len : ∀ (p : Pt) (v : Vl), (fitR p v).1.length ≤ p.cnt
  | .mk k s q n ks, v => by
    rw [fitR, Pt.cnt]
    have h1 := fitL_len ks v.ks
    have h2 := aloneR_len k s n v
    (repeat' split) <;> first | omega | (simp only [List.length_nil]; omega)
theorem fitL_len : ∀ (l : List Pt) (vs : List Vl), (fitL l vs).1.length ≤ Pt.cntL l
  | [], vs => by simp [fitL]
  | p :: ps, [] => by simp [fitL]
  | p :: ps, v :: vs => by
    rw [fitL, Pt.cntL]
    have h1 := fitR_len p v
    have h2 := fitL_len ps vs
    split
    · simp only [List.length_append]; omega
    · simp only; omega
end

/-- A slice of things of k cells each, in a block of K. -/
def GRow {α : Type} (w : World) (K : Nat → Prop) (k : Nat) (R : List Value → α → Prop) (v : Value) (l : List α) : Prop :=
  (∃ b o c, v = .slice (some ⟨b, o, none⟩) l.length c ∧ K b ∧ l.length ≤ c ∧ l.length ≤ maxLen ∧ ∀ (i : Nat) x, l[i]? = some x → ∃ vs, vs.length = k ∧ Cells w b (o + i * k) vs ∧ R vs x) ∨ (l = [] ∧ ∃ p c, v = .slice p 0 c)
theorem GRow.form {α : Type} {w : World} {K : Nat → Prop} {k : Nat} {R : List Value → α → Prop} {v : Value} {l : List α} (h : GRow w K k R v l) : ∃ a c, v = .slice a l.length c ∧ l.length ≤ maxLen := by
  rcases h with ⟨b, o, c, rfl, -, -, hm, -⟩ | ⟨rfl, p, c, rfl⟩
  · exact ⟨_, _, rfl, hm⟩
  · exact ⟨_, _, rfl, Nat.zero_le _⟩
theorem GRow.move {α : Type} {w w' : World} {K K' : Nat → Prop} {k : Nat} {R R' : List Value → α → Prop} {v : Value} {l : List α} (h : GRow w K k R v l) (hk : Keeps K w w') (hK : ∀ b, K b → K' b) (hR : ∀ vs x, R vs x → R' vs x) : GRow w' K' k R' v l := by
  rcases h with ⟨b, o, c, hv, hb, hl, hm, hc⟩ | h
  · refine .inl ⟨b, o, c, hv, hK b hb, hl, hm, fun i x hx => ?_⟩
    obtain ⟨vs, h1, h2, h3⟩ := hc i x hx
    exact ⟨vs, h1, fun j u hu => hk _ _ _ hb (h2 j u hu), hR _ _ h3⟩
  · exact .inr h
theorem GRow.both {α : Type} {w : World} {K : Nat → Prop} {k : Nat} {R R' : List Value → α → Prop} {v : Value} {l : List α} (hk : 0 < k) (h : GRow w K k R v l) (hR : ∀ vs x, R vs x → R' vs x) : GRow w (fun b => K b ∧ b < w.heap.size) k R' v l := by
  rcases h with ⟨b, o, c, hv, hb, hl, hm, hc⟩ | h
  · cases l with
    | nil => exact .inr ⟨rfl, _, _, hv⟩
    | cons x r =>
      refine .inl ⟨b, o, c, hv, ⟨hb, ?_⟩, hl, hm, fun i y hy => ?_⟩
      · obtain ⟨vs, h1, h2, -⟩ := hc 0 x rfl
        exact World.block_lt_of_cell? w _ (h2 0 _ (List.getElem?_eq_getElem (by omega)))
      · obtain ⟨vs, h1, h2, h3⟩ := hc i y hy
        exact ⟨vs, h1, h2, hR _ _ h3⟩
  · exact .inr h
theorem GRow.elem {α : Type} {w : World} {K : Nat → Prop} {k : Nat} {R : List Value → α → Prop} {a : Option Addr} {m c : Nat} {l : List α} (h : GRow w K k R (.slice a m c) l) {i : Nat} {x : α} (hx : l[i]? = some x) : ∃ b o, a = some ⟨b, o, none⟩ ∧ K b ∧ ∃ vs, vs.length = k ∧ Cells w b (o + i * k) vs ∧ R vs x := by
  rcases h with ⟨b, o, c', hv, hb, hl, hm, hc⟩ | ⟨rfl, -⟩
  · injection hv with e1 e2 e3
    exact ⟨b, o, e1, hb, hc i x hx⟩
  · simp at hx
theorem GRow.empty {α : Type} {w : World} {K : Nat → Prop} {k : Nat} {R : List Value → α → Prop} (a : Option Addr) (c : Nat) : GRow w K k R (.slice a 0 c) [] := .inr ⟨rfl, a, c, rfl⟩

/-- The values vs are the value t. -/
def VAt (w : World) (K : Nat → Prop) : Nat → List Value → Vl → Prop
  | 0, _, _ => False
  | n + 1, vs, t => ∃ v, vs = [.int .i64 t.k, .int .i64 t.n, .string t.s, v] ∧ GRow w K 4 (VAt w K n) v t.ks
abbrev VAtL (w : World) (K : Nat → Prop) (n : Nat) (v : Value) (l : List Vl) : Prop := GRow w K 4 (VAt w K n) v l
/-- The values vs are the pattern t. -/
def PtAt (w : World) (K : Nat → Prop) : Nat → List Value → Pt → Prop
  | 0, _, _ => False
  | n + 1, vs, t => ∃ pv v, vs = [.int .i64 t.k, .string t.s, pv, .int .i64 t.n, v] ∧ GRow w K 1 (fun vs x => vs = [.string x]) pv t.p ∧ GRow w K 5 (PtAt w K n) v t.ks
abbrev PtAtL (w : World) (K : Nat → Prop) (n : Nat) (v : Value) (l : List Pt) : Prop := GRow w K 5 (PtAt w K n) v l
theorem VAt.move {w w' : World} {K K' : Nat → Prop} (hk : Keeps K w w') (hK : ∀ b, K b → K' b) : ∀ {n : Nat} {vs : List Value} {t : Vl}, VAt w K n vs t → VAt w' K' n vs t
  | 0, _, _, h => h
  | n + 1, vs, t, ⟨v, h1, h2⟩ => ⟨v, h1, h2.move hk hK fun _ _ q => VAt.move hk hK q⟩
theorem PtAt.move {w w' : World} {K K' : Nat → Prop} (hk : Keeps K w w') (hK : ∀ b, K b → K' b) : ∀ {n : Nat} {vs : List Value} {t : Pt}, PtAt w K n vs t → PtAt w' K' n vs t
  | 0, _, _, h => h
  | n + 1, vs, t, ⟨pv, v, h1, h2, h3⟩ => ⟨pv, v, h1, h2.move hk hK fun _ _ q => q, h3.move hk hK fun _ _ q => PtAt.move hk hK q⟩
theorem VAtL.move {w w' : World} {K K' : Nat → Prop} {n : Nat} {v : Value} {l : List Vl} (h : VAtL w K n v l) (hk : Keeps K w w') (hK : ∀ b, K b → K' b) : VAtL w' K' n v l := GRow.move h hk hK fun _ _ q => VAt.move hk hK q
theorem PtAtL.move {w w' : World} {K K' : Nat → Prop} {n : Nat} {v : Value} {l : List Pt} (h : PtAtL w K n v l) (hk : Keeps K w w') (hK : ∀ b, K b → K' b) : PtAtL w' K' n v l := GRow.move h hk hK fun _ _ q => PtAt.move hk hK q
theorem VAt.below {w w' : World} {K : Nat → Prop} {n : Nat} {vs : List Value} {t : Vl} (h : VAt w K n vs t) (hb : Below w.heap.size w w') : VAt w' K n vs t := h.move (Keeps.of_below hb) fun _ h => h
theorem PtAt.below {w w' : World} {K : Nat → Prop} {n : Nat} {vs : List Value} {t : Pt} (h : PtAt w K n vs t) (hb : Below w.heap.size w w') : PtAt w' K n vs t := h.move (Keeps.of_below hb) fun _ h => h
theorem VAtL.below {w w' : World} {K : Nat → Prop} {n : Nat} {v : Value} {l : List Vl} (h : VAtL w K n v l) (hb : Below w.heap.size w w') : VAtL w' K n v l := h.move (Keeps.of_below hb) fun _ h => h
theorem PtAtL.below {w w' : World} {K : Nat → Prop} {n : Nat} {v : Value} {l : List Pt} (h : PtAtL w K n v l) (hb : Below w.heap.size w w') : PtAtL w' K n v l := h.move (Keeps.of_below hb) fun _ h => h
theorem VAt.both {w : World} {K : Nat → Prop} : ∀ {n : Nat} {vs : List Value} {t : Vl}, VAt w K n vs t → VAt w (fun b => K b ∧ b < w.heap.size) n vs t
  | 0, _, _, h => h
  | n + 1, vs, t, ⟨v, h1, h2⟩ => ⟨v, h1, h2.both (by decide) fun _ _ q => VAt.both q⟩
theorem PtAt.both {w : World} {K : Nat → Prop} : ∀ {n : Nat} {vs : List Value} {t : Pt}, PtAt w K n vs t → PtAt w (fun b => K b ∧ b < w.heap.size) n vs t
  | 0, _, _, h => h
  | n + 1, vs, t, ⟨pv, v, h1, h2, h3⟩ => ⟨pv, v, h1, h2.both (by decide) fun _ _ q => q, h3.both (by decide) fun _ _ q => PtAt.both q⟩
theorem VAtL.both {w : World} {K : Nat → Prop} {n : Nat} {v : Value} {l : List Vl} (h : VAtL w K n v l) : VAtL w (fun b => K b ∧ b < w.heap.size) n v l := GRow.both (by decide) h fun _ _ q => VAt.both q
theorem VAt.old {w : World} {K : Nat → Prop} {n : Nat} {vs : List Value} {t : Vl} (h : VAt w K n vs t) : VAt w (fun b => b < w.heap.size) n vs t := h.both.move (Keeps.refl _ _) fun b hb => hb.2
theorem PtAt.old {w : World} {K : Nat → Prop} {n : Nat} {vs : List Value} {t : Pt} (h : PtAt w K n vs t) : PtAt w (fun b => b < w.heap.size) n vs t := h.both.move (Keeps.refl _ _) fun b hb => hb.2
theorem VAtL.old {w : World} {K : Nat → Prop} {n : Nat} {v : Value} {l : List Vl} (h : VAtL w K n v l) : VAtL w (fun b => b < w.heap.size) n v l := h.both.move (Keeps.refl _ _) fun b hb => hb.2
theorem VAt.any {w : World} {K : Nat → Prop} {n : Nat} {vs : List Value} {t : Vl} (h : VAt w K n vs t) : VAt w Any n vs t := h.move (Keeps.refl _ _) fun _ _ => trivial
theorem VAtL.any {w : World} {K : Nat → Prop} {n : Nat} {v : Value} {l : List Vl} (h : VAtL w K n v l) : VAtL w Any n v l := h.move (Keeps.refl _ _) fun _ _ => trivial
theorem PtAt.any {w : World} {K : Nat → Prop} {n : Nat} {vs : List Value} {t : Pt} (h : PtAt w K n vs t) : PtAt w Any n vs t := h.move (Keeps.refl _ _) fun _ _ => trivial
theorem VAt.succ {w : World} {K : Nat → Prop} : ∀ {n : Nat} {vs : List Value} {t : Vl}, VAt w K n vs t → VAt w K (n + 1) vs t
  | 0, _, _, h => h.elim
  | n + 1, vs, t, ⟨v, h1, h2⟩ => ⟨v, h1, h2.move (Keeps.refl _ _) (fun _ h => h) fun _ _ q => VAt.succ q⟩
theorem PtAt.succ {w : World} {K : Nat → Prop} : ∀ {n : Nat} {vs : List Value} {t : Pt}, PtAt w K n vs t → PtAt w K (n + 1) vs t
  | 0, _, _, h => h.elim
  | n + 1, vs, t, ⟨pv, v, h1, h2, h3⟩ => ⟨pv, v, h1, h2, h3.move (Keeps.refl _ _) (fun _ h => h) fun _ _ q => PtAt.succ q⟩
theorem VAt.le {w : World} {K : Nat → Prop} {n m : Nat} {vs : List Value} {t : Vl} (h : VAt w K n vs t) (hm : n ≤ m) : VAt w K m vs t := by
  induction m with
  | zero => obtain rfl : n = 0 := by omega
            exact h
  | succ m ih =>
    by_cases he : n = m + 1
    · subst he; exact h
    · exact (ih (by omega)).succ
theorem PtAt.le {w : World} {K : Nat → Prop} {n m : Nat} {vs : List Value} {t : Pt} (h : PtAt w K n vs t) (hm : n ≤ m) : PtAt w K m vs t := by
  induction m with
  | zero => obtain rfl : n = 0 := by omega
            exact h
  | succ m ih =>
    by_cases he : n = m + 1
    · subst he; exact h
    · exact (ih (by omega)).succ
theorem VAtL.le {w : World} {K : Nat → Prop} {n m : Nat} {v : Value} {l : List Vl} (h : VAtL w K n v l) (hm : n ≤ m) : VAtL w K m v l := GRow.move h (Keeps.refl _ _) (fun _ h => h) fun _ _ q => VAt.le q hm
theorem VAt.form {w : World} {K : Nat → Prop} {n : Nat} {vs : List Value} {t : Vl} (h : VAt w K n vs t) : ∃ a c, vs = [.int .i64 t.k, .int .i64 t.n, .string t.s, .slice a t.ks.length c] ∧ t.ks.length ≤ maxLen := by
  cases n with
  | zero => exact h.elim
  | succ n =>
    obtain ⟨v, rfl, h2⟩ := h
    obtain ⟨a, c, rfl, hm⟩ := h2.form
    exact ⟨a, c, rfl, hm⟩
theorem PtAt.form {w : World} {K : Nat → Prop} {n : Nat} {vs : List Value} {t : Pt} (h : PtAt w K n vs t) : ∃ a c a' c', vs = [.int .i64 t.k, .string t.s, .slice a t.p.length c, .int .i64 t.n, .slice a' t.ks.length c'] ∧ t.p.length ≤ maxLen ∧ t.ks.length ≤ maxLen := by
  cases n with
  | zero => exact h.elim
  | succ n =>
    obtain ⟨pv, v, rfl, h2, h3⟩ := h
    obtain ⟨a, c, rfl, hm⟩ := h2.form
    obtain ⟨a', c', rfl, hm'⟩ := h3.form
    exact ⟨a, c, a', c', rfl, hm, hm'⟩

/-- What a step leaves alone: every block below base but F. -/
structure Fe (F base : Nat) (w w' : World) : Prop where
  os : w'.os = w.os
  tape : w'.tape = w.tape
  output : w'.output = w.output
  size : w.heap.size ≤ w'.heap.size
  block : ∀ b, b < base → b ≠ F → w'.heap[b]? = w.heap[b]?
theorem Fe.refl (F base : Nat) (w : World) : Fe F base w w := ⟨rfl, rfl, rfl, Nat.le_refl _, fun _ _ _ => rfl⟩
theorem Fe.trans {F base : Nat} {a b c : World} (h : Fe F base a b) (k : Fe F base b c) : Fe F base a c :=
  ⟨k.os.trans h.os, k.tape.trans h.tape, k.output.trans h.output, Nat.le_trans h.size k.size, fun x h1 h2 => (k.block x h1 h2).trans (h.block x h1 h2)⟩
theorem Fe.of_below {F base : Nat} {w w' : World} (h : Below w.heap.size w w') (hb : base ≤ w.heap.size) : Fe F base w w' := ⟨h.os, h.tape, h.output, h.size, fun x h1 _ => h.block x (by omega)⟩
theorem Fe.below {F base : Nat} {w w' : World} (h : Fe F base w w') (hF : F ≤ base) : Below F w w' := ⟨h.os, h.tape, h.output, h.size, fun k hk => h.block k (by omega) (by omega)⟩
theorem Fe.keeps {F base : Nat} {w w' : World} (h : Fe F base w w') (hF : F ≤ base) : Keeps (· < F) w w' := fun b o v hb hv => (World.cell?_of_block (w := w) (h.block b (by have : b < F := hb; omega) (by have : b < F := hb; show b ≠ F; omega))).trans hv
theorem Fe.cells {F base : Nat} {w w' : World} (h : Fe F base w w') (hF : F ≤ base) {b o : Nat} {vs : List Value} (hb : b < F) (hc : Cells w b o vs) : Cells w' b o vs := fun j v hv => h.keeps hF _ _ _ hb (hc j v hv)
end Go.Proofs.YtjodgnkhociaaaaGreat

namespace Go.Proofs.YtjodgnkhociaaaaGreat
open Go.ChangeShapes Go.WideShapes Go.ChangeAt Go.RowKit Go.Deep
set_option linter.unusedVariables false
set_option linter.unusedSimpArgs false

theorem pt_choose {α β : Type} : ∀ (l : List α) (P : Nat → α → β → Prop), (∀ i x, l[i]? = some x → ∃ y, P i x y) → ∃ m : List β, m.length = l.length ∧ ∀ i x y, l[i]? = some x → m[i]? = some y → P i x y
  | [], P, _ => ⟨[], rfl, fun i x y h => by simp at h⟩
  | a :: l, P, h => by
    obtain ⟨y, hy⟩ := h 0 a rfl
    obtain ⟨m, hm, hr⟩ := pt_choose l (fun i => P (i + 1)) (fun i x hx => h (i + 1) x (by simpa using hx))
    refine ⟨y :: m, by simp [hm], fun i x z hx hz => ?_⟩
    cases i with
    | zero => simp at hx hz; subst hx; subst hz; exact hy
    | succ i => exact hr i x z (by simpa using hx) (by simpa using hz)
theorem pt_summem {α : Type} {f : α → Nat} : ∀ {l : List α} {x : α}, x ∈ l → f x ≤ (l.map f).sum
  | y :: r, x, h => by
    rw [List.map_cons, List.sum_cons]
    rcases List.mem_cons.1 h with rfl | h
    · omega
    · have := pt_summem (f := f) h; omega
theorem pt_add (b o k : Nat) : (⟨b, o, none⟩ : Addr).add k = ⟨b, o + k, none⟩ := by simp [Addr.add]
theorem pt_sumrows {α β : Type} {g : α → Nat} {f : β → Nat} : ∀ {l : List β} {m : List α}, m.length = l.length → (∀ (i : Nat) y a, l[i]? = some y → m[i]? = some a → g a ≤ f y) → (m.map g).sum ≤ (l.map f).sum
  | [], m, hl, _ => by obtain rfl : m = [] := List.length_eq_zero_iff.1 (by simpa using hl); exact Nat.le_refl _
  | x :: r, [], hl, _ => by simp at hl
  | x :: r, y :: m, hl, h => by
    rw [List.map_cons, List.sum_cons, List.map_cons, List.sum_cons]
    have h1 := h 0 x y rfl rfl
    have h2 := pt_sumrows (l := r) (m := m) (g := g) (f := f) (by simpa using hl) fun i u v hu hv => h (i + 1) u v (by simpa using hu) (by simpa using hv)
    omega
variable {H : Type} {enc : TypeId × Value → H} {W : World}
theorem pt_bulkAll : ∀ l : List (DataW H × List MemPlace), Rows.uptoBulkAll (l.map (·.1)) = (l.map fun y => Rows.uptoBulk y.1).sum
  | [] => by simp [Rows.uptoBulkAll]
  | x :: r => by rw [List.map_cons, Rows.uptoBulkAll, List.map_cons, List.sum_cons, pt_bulkAll r]
set_option maxRecDepth 100000 in
/-- A list of things of one size that came in. -/
theorem pt_rows {α : Type} {T elem : TypeId} {size : Nat} (hU : Tryz.prog.underlying T = some (.slice elem)) (hsz : Tryz.prog.cellsOf elem = size) (hs0 : 0 < size) (E : List Value → α → Prop) (wt : α → Nat) {fuel : Nat} {cs : List Value} {x : DataW H × List MemPlace} (h : DataW.trod enc Tryz.prog W 0 (fun _ => true) true fuel T cs = some x)
    (hE : ∀ m cs' y, m < fuel → Rows.uptoBulk y.1 ≤ Rows.uptoBulk x.1 → DataW.trod enc Tryz.prog W 0 (fun _ => true) true m elem cs' = some y → ∃ a : α, E cs' a ∧ wt a ≤ Rows.uptoBulk y.1) : ∃ v l, cs = [v] ∧ GRow W (fun b => b < W.heap.size) size E v l ∧ (l.map wt).sum + 1 ≤ Rows.uptoBulk x.1 := by
  rcases DataW.trod_slice hU h with ⟨rfl, rfl⟩ | ⟨a, len, cap, elems, rest, n, rfl, rfl, rfl, -, hl, hm, hlen, hel, -, -⟩
  · exact ⟨_, [], rfl, .inr ⟨rfl, _, _, rfl⟩, by simp [Rows.uptoBulk]⟩
  · rw [hsz] at hel
    have hin : ∀ (i : Nat) y, elems[i]? = some y → Rows.uptoBulk y.1 ≤ Rows.uptoBulkAll (elems.map (·.1)) := fun i y hy => by
      rw [pt_bulkAll]; exact pt_summem (f := fun y : DataW H × List MemPlace => Rows.uptoBulk y.1) (List.mem_of_getElem? hy)
    obtain ⟨l, hll, hlr⟩ := pt_choose (β := α) elems (fun i y t => ∃ cs', W.cells? 0 (a.add (i * size)) size = some cs' ∧ E cs' t ∧ wt t ≤ Rows.uptoBulk y.1) (fun i y hy => by
      have hi : i < len := by rw [← hlen]; exact (List.getElem?_eq_some_iff.1 hy).1
      have := hel i hi
      rw [hy] at this
      obtain ⟨cs', hcs, htr⟩ := Option.bind_eq_some_iff.1 this
      obtain ⟨t, h1, h2⟩ := hE n cs' y (Nat.lt_succ_self _) (by have := hin i y hy; rw [Rows.uptoBulk]; omega) htr
      exact ⟨t, cs', hcs, h1, h2⟩)
    have hsum : (l.map wt).sum ≤ (elems.map fun y => Rows.uptoBulk y.1).sum := pt_sumrows hll fun i y t hy ht => by obtain ⟨-, -, -, h3⟩ := hlr i y t hy ht; exact h3
    rw [← pt_bulkAll] at hsum
    refine ⟨_, l, rfl, ?_, by rw [Rows.uptoBulk]; omega⟩
    have hln : l.length = len := by omega
    rcases Nat.eq_zero_or_pos len with h0 | h0
    · subst h0
      exact .inr ⟨List.length_eq_zero_iff.1 hln, _, _, rfl⟩
    · obtain ⟨b, off, spot⟩ := a
      obtain ⟨y0, hy0⟩ : ∃ y, elems[0]? = some y := ⟨_, List.getElem?_eq_getElem (by omega)⟩
      obtain ⟨t0, ht0⟩ : ∃ t, l[0]? = some t := ⟨_, List.getElem?_eq_getElem (by omega)⟩
      obtain ⟨cs0, hcs0, -, -⟩ := hlr 0 y0 t0 hy0 ht0
      obtain ⟨-, hl0, hc0⟩ := World.cells?_some hcs0
      have c0 := hc0 0 hs0
      rw [List.getElem?_eq_getElem (by omega)] at c0
      have hspot : spot = none := by simpa [Addr.add] using World.cell?_spot c0
      subst hspot
      have hb : b < W.heap.size := by simpa [Addr.add] using World.block_lt_of_cell? _ _ c0
      refine .inl ⟨b, off, cap, by rw [hln], hb, by omega, by omega, fun i t hi => ?_⟩
      obtain ⟨y, hy⟩ : ∃ y, elems[i]? = some y := ⟨_, List.getElem?_eq_getElem (by have := (List.getElem?_eq_some_iff.1 hi).1; omega)⟩
      obtain ⟨cs', hcs, hat, -⟩ := hlr i y t hy hi
      obtain ⟨-, hcl, hce⟩ := World.cells?_some hcs
      refine ⟨cs', hcl, fun q u hu => ?_, hat⟩
      obtain ⟨hq1, hq2⟩ := List.getElem?_eq_some_iff.1 hu
      have := hce q (by omega)
      rw [pt_add, pt_add] at this
      rw [hu] at this
      exact this

theorem pt_str : Tryz.prog.cellsOf 9 = 1 := by kernel_rfl
theorem pt_int : Tryz.prog.cellsOf 3 = 1 := by kernel_rfl
theorem pt_int64 : Tryz.prog.cellsOf 2 = 1 := by kernel_rfl
theorem pt_strs : Tryz.prog.cellsOf 22 = 1 := by kernel_rfl
theorem pt_val : Tryz.prog.cellsOf 28 = 4 := by kernel_rfl
theorem pt_vals : Tryz.prog.cellsOf 26 = 1 := by kernel_rfl
theorem pt_pat : Tryz.prog.cellsOf 25 = 5 := by kernel_rfl
theorem pt_pats : Tryz.prog.cellsOf 23 = 1 := by kernel_rfl
theorem Vl.cntL_sum : ∀ l : List Vl, Vl.cntL l = (l.map Vl.cnt).sum
  | [] => rfl
  | x :: r => by rw [Vl.cntL, Vl.cntL_sum r]; rfl
theorem Pt.cntL_sum : ∀ l : List Pt, Pt.cntL l = (l.map Pt.cnt).sum
  | [] => rfl
  | x :: r => by rw [Pt.cntL, Pt.cntL_sum r]; rfl
set_option maxRecDepth 100000 in
theorem open_val (n : Nat) : ∀ (cs : List Value) (x : DataW H × List MemPlace), DataW.trod enc Tryz.prog W 0 (fun _ => true) true n 28 cs = some x → ∃ t, VAt W (fun b => b < W.heap.size) n cs t ∧ t.cnt ≤ Rows.uptoBulk x.1 := by
  induction n using Nat.strongRecOn with
  | _ n ih =>
    intro cs x h
    obtain ⟨xs, m, rfl, rfl, hl, hlen, hf⟩ := DataW.trod_struct Tryz.underlying28 h
    rw [pt_val] at hl
    match cs, hl, xs, hlen with
    | [c0, c1, c2, c3], _, [y0, y1, y2, y3], _ =>
      have h0 := hf 0 _ rfl
      have h1 := hf 1 _ rfl
      have h2 := hf 2 _ rfl
      have h3 := hf 3 _ rfl
      replace h0 : DataW.trod enc Tryz.prog W 0 (fun _ => true) true m 3 [c0] = some y0 := by simpa [pt_int] using h0
      replace h1 : DataW.trod enc Tryz.prog W 0 (fun _ => true) true m 2 [c1] = some y1 := by simpa [pt_int, pt_int64] using h1
      replace h2 : DataW.trod enc Tryz.prog W 0 (fun _ => true) true m 9 [c2] = some y2 := by simpa [pt_int, pt_int64, pt_str] using h2
      replace h3 : DataW.trod enc Tryz.prog W 0 (fun _ => true) true m 26 [c3] = some y3 := by simpa [pt_int, pt_int64, pt_str, pt_vals] using h3
      obtain ⟨i0, e0, rfl, -⟩ := DataW.trod_int Tryz.underlying3 h0
      obtain rfl : c0 = _ := by simpa using e0
      obtain ⟨i1, e1, rfl, -⟩ := DataW.trod_int Tryz.underlying2 h1
      obtain rfl : c1 = _ := by simpa using e1
      obtain ⟨s2, e2, rfl, -⟩ := DataW.trod_string Tryz.underlying9 h2
      obtain rfl : c2 = _ := by simpa using e2
      obtain ⟨v, l, e3, a3, b3⟩ := pt_rows Tryz.underlying26 pt_val (by decide) (VAt W (fun b => b < W.heap.size) m) Vl.cnt h3 (fun k cs' y hk _ hy => by
        obtain ⟨t, q1, q2⟩ := ih k (by omega) cs' y hy
        exact ⟨t, q1.le (by omega), q2⟩)
      obtain rfl : c3 = _ := by simpa using e3
      refine ⟨.mk i0 i1 s2 l, ⟨_, rfl, a3⟩, ?_⟩
      rw [Vl.cnt, Vl.cntL_sum]
      simp only [Rows.uptoBulk, Rows.uptoBulkAll, List.map_cons, List.map_nil]
      omega
set_option maxRecDepth 100000 in
theorem open_pat (n : Nat) : ∀ (cs : List Value) (x : DataW H × List MemPlace), DataW.trod enc Tryz.prog W 0 (fun _ => true) true n 25 cs = some x → ∃ t, PtAt W (fun b => b < W.heap.size) n cs t ∧ t.cnt ≤ Rows.uptoBulk x.1 := by
  induction n using Nat.strongRecOn with
  | _ n ih =>
    intro cs x h
    obtain ⟨xs, m, rfl, rfl, hl, hlen, hf⟩ := DataW.trod_struct Tryz.underlying25 h
    rw [pt_pat] at hl
    match cs, hl, xs, hlen with
    | [c0, c1, c2, c3, c4], _, [y0, y1, y2, y3, y4], _ =>
      have h0 := hf 0 _ rfl
      have h1 := hf 1 _ rfl
      have h2 := hf 2 _ rfl
      have h3 := hf 3 _ rfl
      have h4 := hf 4 _ rfl
      replace h0 : DataW.trod enc Tryz.prog W 0 (fun _ => true) true m 3 [c0] = some y0 := by simpa [pt_int] using h0
      replace h1 : DataW.trod enc Tryz.prog W 0 (fun _ => true) true m 9 [c1] = some y1 := by simpa [pt_int, pt_str] using h1
      replace h2 : DataW.trod enc Tryz.prog W 0 (fun _ => true) true m 22 [c2] = some y2 := by simpa [pt_int, pt_strs, pt_str] using h2
      replace h3 : DataW.trod enc Tryz.prog W 0 (fun _ => true) true m 2 [c3] = some y3 := by simpa [pt_int, pt_int64, pt_str, pt_strs] using h3
      replace h4 : DataW.trod enc Tryz.prog W 0 (fun _ => true) true m 23 [c4] = some y4 := by simpa [pt_int, pt_int64, pt_str, pt_strs, pt_pats] using h4
      obtain ⟨i0, e0, rfl, -⟩ := DataW.trod_int Tryz.underlying3 h0
      obtain rfl : c0 = _ := by simpa using e0
      obtain ⟨s1, e1, rfl, -⟩ := DataW.trod_string Tryz.underlying9 h1
      obtain rfl : c1 = _ := by simpa using e1
      obtain ⟨v2, l2, e2, a2, -⟩ := pt_rows Tryz.underlying22 pt_str (by decide) (fun vs (x : ByteArray) => vs = [.string x]) (fun _ => 0) h2 (fun k cs' y hk _ hy => by
        obtain ⟨s, q1, -, -⟩ := DataW.trod_string Tryz.underlying9 hy
        exact ⟨s, q1, Nat.zero_le _⟩)
      obtain rfl : c2 = _ := by simpa using e2
      obtain ⟨i3, e3, rfl, -⟩ := DataW.trod_int Tryz.underlying2 h3
      obtain rfl : c3 = _ := by simpa using e3
      obtain ⟨v, l, e4, a4, b4⟩ := pt_rows Tryz.underlying23 pt_pat (by decide) (PtAt W (fun b => b < W.heap.size) m) Pt.cnt h4 (fun k cs' y hk _ hy => by
        obtain ⟨t, q1, q2⟩ := ih k (by omega) cs' y hy
        exact ⟨t, q1.le (by omega), q2⟩)
      obtain rfl : c4 = _ := by simpa using e4
      refine ⟨.mk i0 s1 l2 i3 l, ⟨_, _, rfl, a2, a4⟩, ?_⟩
      rw [Pt.cnt, Pt.cntL_sum]
      simp only [Rows.uptoBulk, Rows.uptoBulkAll, List.map_cons, List.map_nil]
      omega
set_option maxRecDepth 100000 in
/-- A pattern that came in. -/
theorem open_patern {base : Nat} {v : Value} {d : DataW H} {p : List MemPlace} (hok : Value.okWide Tryz.prog W .any base 25 v) (h : DataW.Trod enc Tryz.prog W 0 (fun _ => true) true 25 v d p) : ∃ n vs t, v = .agg vs.toArray ∧ PtAt W Any n vs t ∧ t.cnt ≤ Rows.uptoBulk d := by
  obtain ⟨cs, rfl, hsz⟩ := okWide_struct Tryz.underlying25 hok
  obtain ⟨fuel, hf⟩ := h
  obtain ⟨t, h1, h2⟩ := open_pat fuel _ _ hf
  exact ⟨fuel, cs.toList, t, by simp, h1.any, h2⟩
set_option maxRecDepth 100000 in
/-- A value that came in. -/
theorem open_value {base : Nat} {v : Value} {d : DataW H} {p : List MemPlace} (hok : Value.okWide Tryz.prog W .any base 28 v) (h : DataW.Trod enc Tryz.prog W 0 (fun _ => true) true 28 v d p) : ∃ n vs t, v = .agg vs.toArray ∧ VAt W Any n vs t ∧ t.cnt ≤ Rows.uptoBulk d := by
  obtain ⟨cs, rfl, hsz⟩ := okWide_struct Tryz.underlying28 hok
  obtain ⟨fuel, hf⟩ := h
  obtain ⟨t, h1, h2⟩ := open_val fuel _ _ hf
  exact ⟨fuel, cs.toList, t, by simp, h1.any, h2⟩
end Go.Proofs.YtjodgnkhociaaaaGreat
