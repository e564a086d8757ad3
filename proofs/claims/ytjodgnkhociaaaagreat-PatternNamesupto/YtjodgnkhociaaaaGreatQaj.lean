/- Nodes aa plain data: what each sort has, how many there are, how deep they stand; how they lie in memory. -/
import Derived.Test.YtjodgnkhociaaaaGreatQai
namespace Go.Proofs.YtjodgnkhociaaaaGreat.Tre
open Go.RowKit
set_option linter.unusedVariables false

/-- A field of a node that is no list of nodes. -/
inductive Sc where
  | int (n : Int)
  | str (s : ByteArray)
  | strs (l : List ByteArray)
/-- A node: its plain fields (where it stands is left out), its lists. -/
inductive Nd where
  | mk (sc : List Sc) (ks : List (List Nd))
def Nd.sc : Nd → List Sc | .mk a _ => a
def Nd.ks : Nd → List (List Nd) | .mk _ b => b
mutual
def Nd.cnt : Nd → Nat
  | .mk _ ks => Nd.cntLL ks + 1
def Nd.cntLL : List (List Nd) → Nat
  | [] => 0
  | l :: r => Nd.cntL l + Nd.cntLL r
def Nd.cntL : List Nd → Nat
  | [] => 0
  | x :: r => Nd.cnt x + Nd.cntL r
end
mutual
def Nd.dep : Nd → Nat
  | .mk _ ks => Nd.depLL ks + 1
def Nd.depLL : List (List Nd) → Nat
  | [] => 0
  | l :: r => max (Nd.depL l) (Nd.depLL r)
def Nd.depL : List Nd → Nat
  | [] => 0
  | x :: r => max (Nd.dep x) (Nd.depL r)
end
/-- Sorts of fields: a number, a place (any number), a text, texts. -/
inductive Fk where
  | int
  | place
  | str
  | strs
/-- Ty 0, Pat 1, Exp 2, Dec 3, Con 4, Mod 5, Sig 6, Spec 7. -/
def Nd.shape : Nat → List Fk
  | 0 => [.int, .str, .strs]
  | 1 => [.int, .str, .strs, .int]
  | 2 => [.int, .int, .int, .strs]
  | 3 => [.int, .place, .str, .strs]
  | 4 => [.str]
  | 5 => [.int, .strs]
  | 6 => [.int, .strs]
  | 7 => [.int, .place, .str]
  | _ => []
def Nd.subs : Nat → List Nat
  | 0 => [0]
  | 1 => [1]
  | 2 => [1, 2, 3, 0]
  | 3 => [0, 2, 4, 5, 6]
  | 4 => [0]
  | 5 => [3, 5, 6]
  | 6 => [7, 6, 0]
  | 7 => [0, 4, 6]
  | _ => []
def Nd.size : Nat → Nat
  | 0 => 4
  | 1 => 5
  | 2 => 8
  | 3 => 9
  | 4 => 2
  | 5 => 5
  | 6 => 5
  | 7 => 6
  | _ => 1
theorem Nd.size_pos (s : Nat) : 0 < Nd.size s := by unfold Nd.size; split <;> decide

def All3 {α β γ : Type} (R : α → β → γ → Prop) : List α → List β → List γ → Prop
  | [], [], [] => True
  | a :: aa, b :: bb, c :: cs => R a b c ∧ All3 R aa bb cs
  | _, _, _ => False
theorem All3.cons_inv {α β γ : Type} {R : α → β → γ → Prop} {a : α} {aa : List α} {b : β} {bb : List β} {cs : List γ} (h : All3 R (a :: aa) (b :: bb) cs) : ∃ c cs', cs = c :: cs' ∧ R a b c ∧ All3 R aa bb cs' := by
  cases cs with
  | nil => exact h.elim
  | cons c cs' => exact ⟨c, cs', rfl, h.1, h.2⟩
theorem All3.nil_inv {α β γ : Type} {R : α → β → γ → Prop} {cs : List γ} (h : All3 R [] [] cs) : cs = [] := by
  cases cs with
  | nil => rfl
  | cons c cs' => exact h.elim
theorem All3.imp {α β γ : Type} {R S : α → β → γ → Prop} (hi : ∀ a b c, R a b c → S a b c) : ∀ {aa : List α} {bb : List β} {cs : List γ}, All3 R aa bb cs → All3 S aa bb cs
  | [], [], [], _ => trivial
  | a :: aa, b :: bb, c :: cs, h => ⟨hi _ _ _ h.1, All3.imp hi h.2⟩

/-- The cells from a place on hold these values. -/
def Cells (w : World) (b o : Nat) (vs : List Value) : Prop := ∀ (j : Nat) v, vs[j]? = some v → w.cell? ⟨b, o + j, none⟩ = some v
/-- A slice of texts, in a block of K. -/
def Tx (w : World) (K : Nat → Prop) (v : Value) (xs : List ByteArray) : Prop :=
  (∃ b o c, v = .slice (some ⟨b, o, none⟩) xs.length c ∧ K b ∧ xs.length ≤ c ∧ ∀ (j : Nat) x, xs[j]? = some x → w.cell? ⟨b, o + j, none⟩ = some (.string x)) ∨ (xs = [] ∧ ∃ p c, v = .slice p 0 c)
/-- A slice of nodes of k cells each, in a block of K. -/
def Row (w : World) (K : Nat → Prop) (k : Nat) (R : List Value → Nd → Prop) (v : Value) (l : List Nd) : Prop :=
  (∃ b o c, v = .slice (some ⟨b, o, none⟩) l.length c ∧ K b ∧ l.length ≤ c ∧ l.length ≤ maxLen ∧ ∀ (i : Nat) x, l[i]? = some x → ∃ vs, vs.length = k ∧ Cells w b (o + i * k) vs ∧ R vs x) ∨ (l = [] ∧ ∃ p c, v = .slice p 0 c)
def Fk.Ok (w : World) (K : Nat → Prop) : Fk → Value → Sc → Prop
  | .int, v, sc => ∃ n, v = .int .i64 n ∧ -9223372036854775808 ≤ n ∧ n ≤ 9223372036854775807 ∧ sc = .int n
  | .place, v, sc => ∃ n, v = .int .i64 n ∧ -9223372036854775808 ≤ n ∧ n ≤ 9223372036854775807 ∧ sc = .int 0
  | .str, v, sc => ∃ s, v = .string s ∧ s.size ≤ maxLen ∧ sc = .str s
  | .strs, v, sc => ∃ xs, Tx w K v xs ∧ (∀ x, x ∈ xs → x.size ≤ maxLen) ∧ xs.length ≤ maxLen ∧ sc = .strs xs
/-- The values vs are a node of sort s. -/
def At (w : World) (K : Nat → Prop) : Nat → Nat → List Value → Nd → Prop
  | 0, _, _, _ => False
  | n + 1, s, vs, nd => vs.length = Nd.size s ∧ All3 (Fk.Ok w K) (Nd.shape s) (vs.take (Nd.shape s).length) nd.sc ∧ All3 (fun t v l => Row w K (Nd.size t) (At w K n t) v l) (Nd.subs s) (vs.drop (Nd.shape s).length) nd.ks
/-- The value v is a slice of nodes of sort s. -/
def AtL (w : World) (K : Nat → Prop) (n s : Nat) (v : Value) (l : List Nd) : Prop := Row w K (Nd.size s) (At w K n s) v l

theorem Tx.strs {w : World} {K : Nat → Prop} {v : Value} {xs : List ByteArray} (h : Tx w K v xs) : Strs w v xs := by
  rcases h with ⟨b, o, c, hv, -, -, hc⟩ | h
  · exact .inl ⟨b, o, c, hv, hc⟩
  · exact .inr h

/-- What lies in blocks of K lies in every world that has the same there. -/
def Keeps (K : Nat → Prop) (w w' : World) : Prop := ∀ (b o : Nat) v, K b → w.cell? ⟨b, o, none⟩ = some v → w'.cell? ⟨b, o, none⟩ = some v
theorem Keeps.refl (K : Nat → Prop) (w : World) : Keeps K w w := fun _ _ _ _ h => h
theorem Keeps.trans {K : Nat → Prop} {a b c : World} (h : Keeps K a b) (h' : Keeps K b c) : Keeps K a c := fun x o v hk hv => h' x o v hk (h x o v hk hv)
theorem Keeps.of_below {K : Nat → Prop} {w w' : World} (h : Below w.heap.size w w') : Keeps K w w' := fun b o v _ hv => (h.cell (World.block_lt_of_cell? w _ hv)).trans hv
theorem Tx.move {w w' : World} {K K' : Nat → Prop} {v : Value} {xs : List ByteArray} (h : Tx w K v xs) (hk : Keeps K w w') (hK : ∀ b, K b → K' b) : Tx w' K' v xs := by
  rcases h with ⟨b, o, c, hv, hb, hl, hc⟩ | h
  · exact .inl ⟨b, o, c, hv, hK b hb, hl, fun j x hx => hk _ _ _ hb (hc j x hx)⟩
  · exact .inr h
theorem Row.move {w w' : World} {K K' : Nat → Prop} {k : Nat} {R R' : List Value → Nd → Prop} {v : Value} {l : List Nd} (h : Row w K k R v l) (hk : Keeps K w w') (hK : ∀ b, K b → K' b) (hR : ∀ vs x, R vs x → R' vs x) : Row w' K' k R' v l := by
  rcases h with ⟨b, o, c, hv, hb, hl, hm, hc⟩ | h
  · refine .inl ⟨b, o, c, hv, hK b hb, hl, hm, fun i x hx => ?_⟩
    obtain ⟨vs, h1, h2, h3⟩ := hc i x hx
    exact ⟨vs, h1, fun j u hu => hk _ _ _ hb (h2 j u hu), hR _ _ h3⟩
  · exact .inr h
theorem Fk.move {w w' : World} {K K' : Nat → Prop} {f : Fk} {v : Value} {s : Sc} (h : f.Ok w K v s) (hk : Keeps K w w') (hK : ∀ b, K b → K' b) : f.Ok w' K' v s := by
  cases f with
  | int => exact h
  | place => exact h
  | str => exact h
  | strs => obtain ⟨xs, h1, h2⟩ := h; exact ⟨xs, h1.move hk hK, h2⟩
theorem At.move {w w' : World} {K K' : Nat → Prop} (hk : Keeps K w w') (hK : ∀ b, K b → K' b) : ∀ (n s : Nat) (vs : List Value) (nd : Nd), At w K n s vs nd → At w' K' n s vs nd
  | 0, _, _, _, h => h
  | n + 1, s, vs, nd, h => ⟨h.1, h.2.1.imp fun _ _ _ q => Fk.move q hk hK, h.2.2.imp fun t _ _ q => Row.move q hk hK (At.move hk hK n t)⟩
theorem At.succ {w : World} {K : Nat → Prop} : ∀ (n s : Nat) (vs : List Value) (nd : Nd), At w K n s vs nd → At w K (n + 1) s vs nd
  | 0, _, _, _, h => h.elim
  | n + 1, s, vs, nd, h => ⟨h.1, h.2.1, h.2.2.imp fun t _ _ q => Row.move q (Keeps.refl _ _) (fun _ h => h) (At.succ n t)⟩
theorem At.le {w : World} {K : Nat → Prop} {n m s : Nat} {vs : List Value} {nd : Nd} (h : At w K n s vs nd) (hm : n ≤ m) : At w K m s vs nd := by
  induction m with
  | zero => obtain rfl : n = 0 := by omega
            exact h
  | succ m ih =>
    by_cases he : n = m + 1
    · subst he; exact h
    · exact (ih (by omega)).succ
theorem AtL.move {w w' : World} {K K' : Nat → Prop} {n s : Nat} {v : Value} {l : List Nd} (h : AtL w K n s v l) (hk : Keeps K w w') (hK : ∀ b, K b → K' b) : AtL w' K' n s v l := Row.move h hk hK (At.move hk hK n s)
theorem AtL.below {w w' : World} {K : Nat → Prop} {n s : Nat} {v : Value} {l : List Nd} (h : AtL w K n s v l) (hb : Below w.heap.size w w') : AtL w' K n s v l := h.move (Keeps.of_below hb) fun _ h => h
theorem AtL.le {w : World} {K : Nat → Prop} {n m s : Nat} {v : Value} {l : List Nd} (h : AtL w K n s v l) (hm : n ≤ m) : AtL w K m s v l := Row.move h (Keeps.refl _ _) (fun _ h => h) (fun _ _ q => At.le q hm)
theorem AtL.form {w : World} {K : Nat → Prop} {n s : Nat} {v : Value} {l : List Nd} (h : AtL w K n s v l) : ∃ a c, v = .slice a l.length c ∧ l.length ≤ maxLen := by
  rcases h with ⟨b, o, c, rfl, -, -, hm, -⟩ | ⟨rfl, p, c, rfl⟩
  · exact ⟨_, _, rfl, hm⟩
  · exact ⟨_, _, rfl, Nat.zero_le _⟩
theorem Tx.form {w : World} {K : Nat → Prop} {v : Value} {xs : List ByteArray} (h : Tx w K v xs) : ∃ a c, v = .slice a xs.length c := by
  rcases h with ⟨b, o, c, rfl, -⟩ | ⟨rfl, p, c, rfl⟩
  · exact ⟨_, _, rfl⟩
  · exact ⟨_, _, rfl⟩
theorem Cells.move {w w' : World} {K : Nat → Prop} {b o : Nat} {vs : List Value} (h : Cells w b o vs) (hb : K b) (hk : Keeps K w w') : Cells w' b o vs := fun j v hv => hk _ _ _ hb (h j v hv)

/-- The blocks that a world has. -/
def Old (W : World) : Nat → Prop := fun b => b < W.heap.size
theorem Tx.old {w : World} {K : Nat → Prop} {v : Value} {xs : List ByteArray} (h : Tx w K v xs) : Tx w (Old w) v xs := by
  rcases h with ⟨b, o, c, hv, -, hl, hc⟩ | h
  · cases xs with
    | nil => exact .inr ⟨rfl, _, _, hv⟩
    | cons x r => exact .inl ⟨b, o, c, hv, World.block_lt_of_cell? w _ (hc 0 x rfl), hl, hc⟩
  · exact .inr h
theorem Row.old {w : World} {K : Nat → Prop} {k : Nat} {R R' : List Value → Nd → Prop} {v : Value} {l : List Nd} (hk : 0 < k) (h : Row w K k R v l) (hR : ∀ vs x, R vs x → R' vs x) : Row w (Old w) k R' v l := by
  rcases h with ⟨b, o, c, hv, -, hl, hm, hc⟩ | h
  · cases l with
    | nil => exact .inr ⟨rfl, _, _, hv⟩
    | cons x r =>
      refine .inl ⟨b, o, c, hv, ?_, hl, hm, fun i y hy => ?_⟩
      · obtain ⟨vs, h1, h2, -⟩ := hc 0 x rfl
        exact World.block_lt_of_cell? w _ (h2 0 _ (List.getElem?_eq_getElem (by omega)))
      · obtain ⟨vs, h1, h2, h3⟩ := hc i y hy
        exact ⟨vs, h1, h2, hR _ _ h3⟩
  · exact .inr h
theorem Fk.old {w : World} {K : Nat → Prop} {f : Fk} {v : Value} {s : Sc} (h : f.Ok w K v s) : f.Ok w (Old w) v s := by
  cases f with
  | int => exact h
  | place => exact h
  | str => exact h
  | strs => obtain ⟨xs, h1, h2⟩ := h; exact ⟨xs, h1.old, h2⟩
theorem At.old {w : World} {K : Nat → Prop} : ∀ (n s : Nat) (vs : List Value) (nd : Nd), At w K n s vs nd → At w (Old w) n s vs nd
  | 0, _, _, _, h => h
  | n + 1, s, vs, nd, h => ⟨h.1, h.2.1.imp fun _ _ _ q => Fk.old q, h.2.2.imp fun t _ _ q => Row.old (Nd.size_pos t) q (At.old n t)⟩
theorem AtL.old {w : World} {K : Nat → Prop} {n s : Nat} {v : Value} {l : List Nd} (h : AtL w K n s v l) : AtL w (Old w) n s v l := Row.old (Nd.size_pos s) h (At.old n s)

-- opens
theorem At.ty {w : World} {K : Nat → Prop} {n : Nat} {vs : List Value} {nd : Nd} (h : At w K (n + 1) 0 vs nd) : ∃ (i0 : Int) (s1 : ByteArray) (p2 : Value) (x2 : List ByteArray) (v0 : Value) (l0 : List Nd), vs = [.int .i64 i0, .string s1, p2, v0] ∧ nd = .mk [.int i0, .str s1, .strs x2] [l0] ∧ (-9223372036854775808 ≤ i0 ∧ i0 ≤ 9223372036854775807) ∧ s1.size ≤ maxLen ∧ (Tx w K p2 x2 ∧ (∀ x, x ∈ x2 → x.size ≤ maxLen) ∧ x2.length ≤ maxLen) ∧ AtL w K n 0 v0 l0 := by
  obtain ⟨hl, h1, h2⟩ := h
  obtain ⟨sc, ks⟩ := nd
  match vs, hl with
  | [u0, u1, u2, u3], _ =>
    simp only [Nd.shape, Nd.subs, List.length_cons, List.length_nil, List.take_succ_cons, List.drop_succ_cons, Nat.zero_add, Nd.sc, Nd.ks, List.take, List.drop] at h1 h2
    obtain ⟨_, _, rfl, ⟨i0, rfl, a0, b0, rfl⟩, h10⟩ := All3.cons_inv h1
    obtain ⟨_, _, rfl, ⟨s1, rfl, a1, rfl⟩, h11⟩ := All3.cons_inv h10
    obtain ⟨_, _, rfl, ⟨x2, a2, b2, c2, rfl⟩, h12⟩ := All3.cons_inv h11
    obtain rfl := All3.nil_inv h12
    obtain ⟨l0, _, rfl, k0, h20⟩ := All3.cons_inv h2
    obtain rfl := All3.nil_inv h20
    exact ⟨i0, s1, u2, x2, u3, l0, rfl, rfl, ⟨a0, b0⟩, a1, ⟨a2, b2, c2⟩, k0⟩
theorem At.ty_mk {w : World} {K : Nat → Prop} {n : Nat} {i0 : Int} {s1 : ByteArray} {p2 : Value} {x2 : List ByteArray} {v0 : Value} {l0 : List Nd} (a0 : -9223372036854775808 ≤ i0 ∧ i0 ≤ 9223372036854775807) (a1 : s1.size ≤ maxLen) (a2 : Tx w K p2 x2) (b2 : ∀ x, x ∈ x2 → x.size ≤ maxLen) (c2 : x2.length ≤ maxLen) (k0 : AtL w K n 0 v0 l0) : At w K (n + 1) 0 [.int .i64 i0, .string s1, p2, v0] (.mk [.int i0, .str s1, .strs x2] [l0]) :=
  ⟨rfl, ⟨⟨i0, rfl, a0.1, a0.2, rfl⟩, ⟨s1, rfl, a1, rfl⟩, ⟨x2, a2, b2, c2, rfl⟩, trivial⟩, ⟨k0, trivial⟩⟩
theorem At.pat {w : World} {K : Nat → Prop} {n : Nat} {vs : List Value} {nd : Nd} (h : At w K (n + 1) 1 vs nd) : ∃ (i0 : Int) (s1 : ByteArray) (p2 : Value) (x2 : List ByteArray) (i3 : Int) (v0 : Value) (l0 : List Nd), vs = [.int .i64 i0, .string s1, p2, .int .i64 i3, v0] ∧ nd = .mk [.int i0, .str s1, .strs x2, .int i3] [l0] ∧ (-9223372036854775808 ≤ i0 ∧ i0 ≤ 9223372036854775807) ∧ s1.size ≤ maxLen ∧ (Tx w K p2 x2 ∧ (∀ x, x ∈ x2 → x.size ≤ maxLen) ∧ x2.length ≤ maxLen) ∧ (-9223372036854775808 ≤ i3 ∧ i3 ≤ 9223372036854775807) ∧ AtL w K n 1 v0 l0 := by
  obtain ⟨hl, h1, h2⟩ := h
  obtain ⟨sc, ks⟩ := nd
  match vs, hl with
  | [u0, u1, u2, u3, u4], _ =>
    simp only [Nd.shape, Nd.subs, List.length_cons, List.length_nil, List.take_succ_cons, List.drop_succ_cons, Nat.zero_add, Nd.sc, Nd.ks, List.take, List.drop] at h1 h2
    obtain ⟨_, _, rfl, ⟨i0, rfl, a0, b0, rfl⟩, h10⟩ := All3.cons_inv h1
    obtain ⟨_, _, rfl, ⟨s1, rfl, a1, rfl⟩, h11⟩ := All3.cons_inv h10
    obtain ⟨_, _, rfl, ⟨x2, a2, b2, c2, rfl⟩, h12⟩ := All3.cons_inv h11
    obtain ⟨_, _, rfl, ⟨i3, rfl, a3, b3, rfl⟩, h13⟩ := All3.cons_inv h12
    obtain rfl := All3.nil_inv h13
    obtain ⟨l0, _, rfl, k0, h20⟩ := All3.cons_inv h2
    obtain rfl := All3.nil_inv h20
    exact ⟨i0, s1, u2, x2, i3, u4, l0, rfl, rfl, ⟨a0, b0⟩, a1, ⟨a2, b2, c2⟩, ⟨a3, b3⟩, k0⟩
theorem At.pat_mk {w : World} {K : Nat → Prop} {n : Nat} {i0 : Int} {s1 : ByteArray} {p2 : Value} {x2 : List ByteArray} {i3 : Int} {v0 : Value} {l0 : List Nd} (a0 : -9223372036854775808 ≤ i0 ∧ i0 ≤ 9223372036854775807) (a1 : s1.size ≤ maxLen) (a2 : Tx w K p2 x2) (b2 : ∀ x, x ∈ x2 → x.size ≤ maxLen) (c2 : x2.length ≤ maxLen) (a3 : -9223372036854775808 ≤ i3 ∧ i3 ≤ 9223372036854775807) (k0 : AtL w K n 1 v0 l0) : At w K (n + 1) 1 [.int .i64 i0, .string s1, p2, .int .i64 i3, v0] (.mk [.int i0, .str s1, .strs x2, .int i3] [l0]) :=
  ⟨rfl, ⟨⟨i0, rfl, a0.1, a0.2, rfl⟩, ⟨s1, rfl, a1, rfl⟩, ⟨x2, a2, b2, c2, rfl⟩, ⟨i3, rfl, a3.1, a3.2, rfl⟩, trivial⟩, ⟨k0, trivial⟩⟩
theorem At.exp {w : World} {K : Nat → Prop} {n : Nat} {vs : List Value} {nd : Nd} (h : At w K (n + 1) 2 vs nd) : ∃ (i0 : Int) (i1 : Int) (i2 : Int) (p3 : Value) (x3 : List ByteArray) (v0 : Value) (l0 : List Nd) (v1 : Value) (l1 : List Nd) (v2 : Value) (l2 : List Nd) (v3 : Value) (l3 : List Nd), vs = [.int .i64 i0, .int .i64 i1, .int .i64 i2, p3, v0, v1, v2, v3] ∧ nd = .mk [.int i0, .int i1, .int i2, .strs x3] [l0, l1, l2, l3] ∧ (-9223372036854775808 ≤ i0 ∧ i0 ≤ 9223372036854775807) ∧ (-9223372036854775808 ≤ i1 ∧ i1 ≤ 9223372036854775807) ∧ (-9223372036854775808 ≤ i2 ∧ i2 ≤ 9223372036854775807) ∧ (Tx w K p3 x3 ∧ (∀ x, x ∈ x3 → x.size ≤ maxLen) ∧ x3.length ≤ maxLen) ∧ AtL w K n 1 v0 l0 ∧ AtL w K n 2 v1 l1 ∧ AtL w K n 3 v2 l2 ∧ AtL w K n 0 v3 l3 := by
  obtain ⟨hl, h1, h2⟩ := h
  obtain ⟨sc, ks⟩ := nd
  match vs, hl with
  | [u0, u1, u2, u3, u4, u5, u6, u7], _ =>
    simp only [Nd.shape, Nd.subs, List.length_cons, List.length_nil, List.take_succ_cons, List.drop_succ_cons, Nat.zero_add, Nd.sc, Nd.ks, List.take, List.drop] at h1 h2
    obtain ⟨_, _, rfl, ⟨i0, rfl, a0, b0, rfl⟩, h10⟩ := All3.cons_inv h1
    obtain ⟨_, _, rfl, ⟨i1, rfl, a1, b1, rfl⟩, h11⟩ := All3.cons_inv h10
    obtain ⟨_, _, rfl, ⟨i2, rfl, a2, b2, rfl⟩, h12⟩ := All3.cons_inv h11
    obtain ⟨_, _, rfl, ⟨x3, a3, b3, c3, rfl⟩, h13⟩ := All3.cons_inv h12
    obtain rfl := All3.nil_inv h13
    obtain ⟨l0, _, rfl, k0, h20⟩ := All3.cons_inv h2
    obtain ⟨l1, _, rfl, k1, h21⟩ := All3.cons_inv h20
    obtain ⟨l2, _, rfl, k2, h22⟩ := All3.cons_inv h21
    obtain ⟨l3, _, rfl, k3, h23⟩ := All3.cons_inv h22
    obtain rfl := All3.nil_inv h23
    exact ⟨i0, i1, i2, u3, x3, u4, l0, u5, l1, u6, l2, u7, l3, rfl, rfl, ⟨a0, b0⟩, ⟨a1, b1⟩, ⟨a2, b2⟩, ⟨a3, b3, c3⟩, k0, k1, k2, k3⟩
theorem At.exp_mk {w : World} {K : Nat → Prop} {n : Nat} {i0 : Int} {i1 : Int} {i2 : Int} {p3 : Value} {x3 : List ByteArray} {v0 : Value} {l0 : List Nd} {v1 : Value} {l1 : List Nd} {v2 : Value} {l2 : List Nd} {v3 : Value} {l3 : List Nd} (a0 : -9223372036854775808 ≤ i0 ∧ i0 ≤ 9223372036854775807) (a1 : -9223372036854775808 ≤ i1 ∧ i1 ≤ 9223372036854775807) (a2 : -9223372036854775808 ≤ i2 ∧ i2 ≤ 9223372036854775807) (a3 : Tx w K p3 x3) (b3 : ∀ x, x ∈ x3 → x.size ≤ maxLen) (c3 : x3.length ≤ maxLen) (k0 : AtL w K n 1 v0 l0) (k1 : AtL w K n 2 v1 l1) (k2 : AtL w K n 3 v2 l2) (k3 : AtL w K n 0 v3 l3) : At w K (n + 1) 2 [.int .i64 i0, .int .i64 i1, .int .i64 i2, p3, v0, v1, v2, v3] (.mk [.int i0, .int i1, .int i2, .strs x3] [l0, l1, l2, l3]) :=
  ⟨rfl, ⟨⟨i0, rfl, a0.1, a0.2, rfl⟩, ⟨i1, rfl, a1.1, a1.2, rfl⟩, ⟨i2, rfl, a2.1, a2.2, rfl⟩, ⟨x3, a3, b3, c3, rfl⟩, trivial⟩, ⟨k0, k1, k2, k3, trivial⟩⟩
theorem At.dec {w : World} {K : Nat → Prop} {n : Nat} {vs : List Value} {nd : Nd} (h : At w K (n + 1) 3 vs nd) : ∃ (i0 : Int) (i1 : Int) (s2 : ByteArray) (p3 : Value) (x3 : List ByteArray) (v0 : Value) (l0 : List Nd) (v1 : Value) (l1 : List Nd) (v2 : Value) (l2 : List Nd) (v3 : Value) (l3 : List Nd) (v4 : Value) (l4 : List Nd), vs = [.int .i64 i0, .int .i64 i1, .string s2, p3, v0, v1, v2, v3, v4] ∧ nd = .mk [.int i0, .int 0, .str s2, .strs x3] [l0, l1, l2, l3, l4] ∧ (-9223372036854775808 ≤ i0 ∧ i0 ≤ 9223372036854775807) ∧ (-9223372036854775808 ≤ i1 ∧ i1 ≤ 9223372036854775807) ∧ s2.size ≤ maxLen ∧ (Tx w K p3 x3 ∧ (∀ x, x ∈ x3 → x.size ≤ maxLen) ∧ x3.length ≤ maxLen) ∧ AtL w K n 0 v0 l0 ∧ AtL w K n 2 v1 l1 ∧ AtL w K n 4 v2 l2 ∧ AtL w K n 5 v3 l3 ∧ AtL w K n 6 v4 l4 := by
  obtain ⟨hl, h1, h2⟩ := h
  obtain ⟨sc, ks⟩ := nd
  match vs, hl with
  | [u0, u1, u2, u3, u4, u5, u6, u7, u8], _ =>
    simp only [Nd.shape, Nd.subs, List.length_cons, List.length_nil, List.take_succ_cons, List.drop_succ_cons, Nat.zero_add, Nd.sc, Nd.ks, List.take, List.drop] at h1 h2
    obtain ⟨_, _, rfl, ⟨i0, rfl, a0, b0, rfl⟩, h10⟩ := All3.cons_inv h1
    obtain ⟨_, _, rfl, ⟨i1, rfl, a1, b1, rfl⟩, h11⟩ := All3.cons_inv h10
    obtain ⟨_, _, rfl, ⟨s2, rfl, a2, rfl⟩, h12⟩ := All3.cons_inv h11
    obtain ⟨_, _, rfl, ⟨x3, a3, b3, c3, rfl⟩, h13⟩ := All3.cons_inv h12
    obtain rfl := All3.nil_inv h13
    obtain ⟨l0, _, rfl, k0, h20⟩ := All3.cons_inv h2
    obtain ⟨l1, _, rfl, k1, h21⟩ := All3.cons_inv h20
    obtain ⟨l2, _, rfl, k2, h22⟩ := All3.cons_inv h21
    obtain ⟨l3, _, rfl, k3, h23⟩ := All3.cons_inv h22
    obtain ⟨l4, _, rfl, k4, h24⟩ := All3.cons_inv h23
    obtain rfl := All3.nil_inv h24
    exact ⟨i0, i1, s2, u3, x3, u4, l0, u5, l1, u6, l2, u7, l3, u8, l4, rfl, rfl, ⟨a0, b0⟩, ⟨a1, b1⟩, a2, ⟨a3, b3, c3⟩, k0, k1, k2, k3, k4⟩
theorem At.dec_mk {w : World} {K : Nat → Prop} {n : Nat} {i0 : Int} {i1 : Int} {s2 : ByteArray} {p3 : Value} {x3 : List ByteArray} {v0 : Value} {l0 : List Nd} {v1 : Value} {l1 : List Nd} {v2 : Value} {l2 : List Nd} {v3 : Value} {l3 : List Nd} {v4 : Value} {l4 : List Nd} (a0 : -9223372036854775808 ≤ i0 ∧ i0 ≤ 9223372036854775807) (a1 : -9223372036854775808 ≤ i1 ∧ i1 ≤ 9223372036854775807) (a2 : s2.size ≤ maxLen) (a3 : Tx w K p3 x3) (b3 : ∀ x, x ∈ x3 → x.size ≤ maxLen) (c3 : x3.length ≤ maxLen) (k0 : AtL w K n 0 v0 l0) (k1 : AtL w K n 2 v1 l1) (k2 : AtL w K n 4 v2 l2) (k3 : AtL w K n 5 v3 l3) (k4 : AtL w K n 6 v4 l4) : At w K (n + 1) 3 [.int .i64 i0, .int .i64 i1, .string s2, p3, v0, v1, v2, v3, v4] (.mk [.int i0, .int 0, .str s2, .strs x3] [l0, l1, l2, l3, l4]) :=
  ⟨rfl, ⟨⟨i0, rfl, a0.1, a0.2, rfl⟩, ⟨i1, rfl, a1.1, a1.2, rfl⟩, ⟨s2, rfl, a2, rfl⟩, ⟨x3, a3, b3, c3, rfl⟩, trivial⟩, ⟨k0, k1, k2, k3, k4, trivial⟩⟩
theorem At.con {w : World} {K : Nat → Prop} {n : Nat} {vs : List Value} {nd : Nd} (h : At w K (n + 1) 4 vs nd) : ∃ (s0 : ByteArray) (v0 : Value) (l0 : List Nd), vs = [.string s0, v0] ∧ nd = .mk [.str s0] [l0] ∧ s0.size ≤ maxLen ∧ AtL w K n 0 v0 l0 := by
  obtain ⟨hl, h1, h2⟩ := h
  obtain ⟨sc, ks⟩ := nd
  match vs, hl with
  | [u0, u1], _ =>
    simp only [Nd.shape, Nd.subs, List.length_cons, List.length_nil, List.take_succ_cons, List.drop_succ_cons, Nat.zero_add, Nd.sc, Nd.ks, List.take, List.drop] at h1 h2
    obtain ⟨_, _, rfl, ⟨s0, rfl, a0, rfl⟩, h10⟩ := All3.cons_inv h1
    obtain rfl := All3.nil_inv h10
    obtain ⟨l0, _, rfl, k0, h20⟩ := All3.cons_inv h2
    obtain rfl := All3.nil_inv h20
    exact ⟨s0, u1, l0, rfl, rfl, a0, k0⟩
theorem At.con_mk {w : World} {K : Nat → Prop} {n : Nat} {s0 : ByteArray} {v0 : Value} {l0 : List Nd} (a0 : s0.size ≤ maxLen) (k0 : AtL w K n 0 v0 l0) : At w K (n + 1) 4 [.string s0, v0] (.mk [.str s0] [l0]) :=
  ⟨rfl, ⟨⟨s0, rfl, a0, rfl⟩, trivial⟩, ⟨k0, trivial⟩⟩
theorem At.mod {w : World} {K : Nat → Prop} {n : Nat} {vs : List Value} {nd : Nd} (h : At w K (n + 1) 5 vs nd) : ∃ (i0 : Int) (p1 : Value) (x1 : List ByteArray) (v0 : Value) (l0 : List Nd) (v1 : Value) (l1 : List Nd) (v2 : Value) (l2 : List Nd), vs = [.int .i64 i0, p1, v0, v1, v2] ∧ nd = .mk [.int i0, .strs x1] [l0, l1, l2] ∧ (-9223372036854775808 ≤ i0 ∧ i0 ≤ 9223372036854775807) ∧ (Tx w K p1 x1 ∧ (∀ x, x ∈ x1 → x.size ≤ maxLen) ∧ x1.length ≤ maxLen) ∧ AtL w K n 3 v0 l0 ∧ AtL w K n 5 v1 l1 ∧ AtL w K n 6 v2 l2 := by
  obtain ⟨hl, h1, h2⟩ := h
  obtain ⟨sc, ks⟩ := nd
  match vs, hl with
  | [u0, u1, u2, u3, u4], _ =>
    simp only [Nd.shape, Nd.subs, List.length_cons, List.length_nil, List.take_succ_cons, List.drop_succ_cons, Nat.zero_add, Nd.sc, Nd.ks, List.take, List.drop] at h1 h2
    obtain ⟨_, _, rfl, ⟨i0, rfl, a0, b0, rfl⟩, h10⟩ := All3.cons_inv h1
    obtain ⟨_, _, rfl, ⟨x1, a1, b1, c1, rfl⟩, h11⟩ := All3.cons_inv h10
    obtain rfl := All3.nil_inv h11
    obtain ⟨l0, _, rfl, k0, h20⟩ := All3.cons_inv h2
    obtain ⟨l1, _, rfl, k1, h21⟩ := All3.cons_inv h20
    obtain ⟨l2, _, rfl, k2, h22⟩ := All3.cons_inv h21
    obtain rfl := All3.nil_inv h22
    exact ⟨i0, u1, x1, u2, l0, u3, l1, u4, l2, rfl, rfl, ⟨a0, b0⟩, ⟨a1, b1, c1⟩, k0, k1, k2⟩
theorem At.mod_mk {w : World} {K : Nat → Prop} {n : Nat} {i0 : Int} {p1 : Value} {x1 : List ByteArray} {v0 : Value} {l0 : List Nd} {v1 : Value} {l1 : List Nd} {v2 : Value} {l2 : List Nd} (a0 : -9223372036854775808 ≤ i0 ∧ i0 ≤ 9223372036854775807) (a1 : Tx w K p1 x1) (b1 : ∀ x, x ∈ x1 → x.size ≤ maxLen) (c1 : x1.length ≤ maxLen) (k0 : AtL w K n 3 v0 l0) (k1 : AtL w K n 5 v1 l1) (k2 : AtL w K n 6 v2 l2) : At w K (n + 1) 5 [.int .i64 i0, p1, v0, v1, v2] (.mk [.int i0, .strs x1] [l0, l1, l2]) :=
  ⟨rfl, ⟨⟨i0, rfl, a0.1, a0.2, rfl⟩, ⟨x1, a1, b1, c1, rfl⟩, trivial⟩, ⟨k0, k1, k2, trivial⟩⟩
theorem At.sig {w : World} {K : Nat → Prop} {n : Nat} {vs : List Value} {nd : Nd} (h : At w K (n + 1) 6 vs nd) : ∃ (i0 : Int) (p1 : Value) (x1 : List ByteArray) (v0 : Value) (l0 : List Nd) (v1 : Value) (l1 : List Nd) (v2 : Value) (l2 : List Nd), vs = [.int .i64 i0, p1, v0, v1, v2] ∧ nd = .mk [.int i0, .strs x1] [l0, l1, l2] ∧ (-9223372036854775808 ≤ i0 ∧ i0 ≤ 9223372036854775807) ∧ (Tx w K p1 x1 ∧ (∀ x, x ∈ x1 → x.size ≤ maxLen) ∧ x1.length ≤ maxLen) ∧ AtL w K n 7 v0 l0 ∧ AtL w K n 6 v1 l1 ∧ AtL w K n 0 v2 l2 := by
  obtain ⟨hl, h1, h2⟩ := h
  obtain ⟨sc, ks⟩ := nd
  match vs, hl with
  | [u0, u1, u2, u3, u4], _ =>
    simp only [Nd.shape, Nd.subs, List.length_cons, List.length_nil, List.take_succ_cons, List.drop_succ_cons, Nat.zero_add, Nd.sc, Nd.ks, List.take, List.drop] at h1 h2
    obtain ⟨_, _, rfl, ⟨i0, rfl, a0, b0, rfl⟩, h10⟩ := All3.cons_inv h1
    obtain ⟨_, _, rfl, ⟨x1, a1, b1, c1, rfl⟩, h11⟩ := All3.cons_inv h10
    obtain rfl := All3.nil_inv h11
    obtain ⟨l0, _, rfl, k0, h20⟩ := All3.cons_inv h2
    obtain ⟨l1, _, rfl, k1, h21⟩ := All3.cons_inv h20
    obtain ⟨l2, _, rfl, k2, h22⟩ := All3.cons_inv h21
    obtain rfl := All3.nil_inv h22
    exact ⟨i0, u1, x1, u2, l0, u3, l1, u4, l2, rfl, rfl, ⟨a0, b0⟩, ⟨a1, b1, c1⟩, k0, k1, k2⟩
theorem At.sig_mk {w : World} {K : Nat → Prop} {n : Nat} {i0 : Int} {p1 : Value} {x1 : List ByteArray} {v0 : Value} {l0 : List Nd} {v1 : Value} {l1 : List Nd} {v2 : Value} {l2 : List Nd} (a0 : -9223372036854775808 ≤ i0 ∧ i0 ≤ 9223372036854775807) (a1 : Tx w K p1 x1) (b1 : ∀ x, x ∈ x1 → x.size ≤ maxLen) (c1 : x1.length ≤ maxLen) (k0 : AtL w K n 7 v0 l0) (k1 : AtL w K n 6 v1 l1) (k2 : AtL w K n 0 v2 l2) : At w K (n + 1) 6 [.int .i64 i0, p1, v0, v1, v2] (.mk [.int i0, .strs x1] [l0, l1, l2]) :=
  ⟨rfl, ⟨⟨i0, rfl, a0.1, a0.2, rfl⟩, ⟨x1, a1, b1, c1, rfl⟩, trivial⟩, ⟨k0, k1, k2, trivial⟩⟩
theorem At.spec {w : World} {K : Nat → Prop} {n : Nat} {vs : List Value} {nd : Nd} (h : At w K (n + 1) 7 vs nd) : ∃ (i0 : Int) (i1 : Int) (s2 : ByteArray) (v0 : Value) (l0 : List Nd) (v1 : Value) (l1 : List Nd) (v2 : Value) (l2 : List Nd), vs = [.int .i64 i0, .int .i64 i1, .string s2, v0, v1, v2] ∧ nd = .mk [.int i0, .int 0, .str s2] [l0, l1, l2] ∧ (-9223372036854775808 ≤ i0 ∧ i0 ≤ 9223372036854775807) ∧ (-9223372036854775808 ≤ i1 ∧ i1 ≤ 9223372036854775807) ∧ s2.size ≤ maxLen ∧ AtL w K n 0 v0 l0 ∧ AtL w K n 4 v1 l1 ∧ AtL w K n 6 v2 l2 := by
  obtain ⟨hl, h1, h2⟩ := h
  obtain ⟨sc, ks⟩ := nd
  match vs, hl with
  | [u0, u1, u2, u3, u4, u5], _ =>
    simp only [Nd.shape, Nd.subs, List.length_cons, List.length_nil, List.take_succ_cons, List.drop_succ_cons, Nat.zero_add, Nd.sc, Nd.ks, List.take, List.drop] at h1 h2
    obtain ⟨_, _, rfl, ⟨i0, rfl, a0, b0, rfl⟩, h10⟩ := All3.cons_inv h1
    obtain ⟨_, _, rfl, ⟨i1, rfl, a1, b1, rfl⟩, h11⟩ := All3.cons_inv h10
    obtain ⟨_, _, rfl, ⟨s2, rfl, a2, rfl⟩, h12⟩ := All3.cons_inv h11
    obtain rfl := All3.nil_inv h12
    obtain ⟨l0, _, rfl, k0, h20⟩ := All3.cons_inv h2
    obtain ⟨l1, _, rfl, k1, h21⟩ := All3.cons_inv h20
    obtain ⟨l2, _, rfl, k2, h22⟩ := All3.cons_inv h21
    obtain rfl := All3.nil_inv h22
    exact ⟨i0, i1, s2, u3, l0, u4, l1, u5, l2, rfl, rfl, ⟨a0, b0⟩, ⟨a1, b1⟩, a2, k0, k1, k2⟩
theorem At.spec_mk {w : World} {K : Nat → Prop} {n : Nat} {i0 : Int} {i1 : Int} {s2 : ByteArray} {v0 : Value} {l0 : List Nd} {v1 : Value} {l1 : List Nd} {v2 : Value} {l2 : List Nd} (a0 : -9223372036854775808 ≤ i0 ∧ i0 ≤ 9223372036854775807) (a1 : -9223372036854775808 ≤ i1 ∧ i1 ≤ 9223372036854775807) (a2 : s2.size ≤ maxLen) (k0 : AtL w K n 0 v0 l0) (k1 : AtL w K n 4 v1 l1) (k2 : AtL w K n 6 v2 l2) : At w K (n + 1) 7 [.int .i64 i0, .int .i64 i1, .string s2, v0, v1, v2] (.mk [.int i0, .int 0, .str s2] [l0, l1, l2]) :=
  ⟨rfl, ⟨⟨i0, rfl, a0.1, a0.2, rfl⟩, ⟨i1, rfl, a1.1, a1.2, rfl⟩, ⟨s2, rfl, a2, rfl⟩, trivial⟩, ⟨k0, k1, k2, trivial⟩⟩
/-- What the values of a node look like. -/
theorem At.ty_form {w : World} {K : Nat → Prop} {n : Nat} {vs : List Value} {nd : Nd} (h : At w K n 0 vs nd) : ∃ (i0 : Int) (s1 : ByteArray) (a2 : Option Addr) (n2 c2 : Nat) (d0 : Option Addr) (m0 e0 : Nat), vs = [.int .i64 i0, .string s1, .slice a2 n2 c2, .slice d0 m0 e0] := by
  cases n with
  | zero => exact h.elim
  | succ n =>
    obtain ⟨i0, s1, p2, x2, v0, l0, rfl, -, -, -, ⟨t2, -, -⟩, k0⟩ := At.ty h
    obtain ⟨a2, c2, rfl⟩ := t2.form
    obtain ⟨d0, e0, rfl, -⟩ := k0.form
    exact ⟨i0, s1, a2, _, c2, d0, _, e0, rfl⟩
/-- What the values of a node look like. -/
theorem At.pat_form {w : World} {K : Nat → Prop} {n : Nat} {vs : List Value} {nd : Nd} (h : At w K n 1 vs nd) : ∃ (i0 : Int) (s1 : ByteArray) (a2 : Option Addr) (n2 c2 : Nat) (i3 : Int) (d0 : Option Addr) (m0 e0 : Nat), vs = [.int .i64 i0, .string s1, .slice a2 n2 c2, .int .i64 i3, .slice d0 m0 e0] := by
  cases n with
  | zero => exact h.elim
  | succ n =>
    obtain ⟨i0, s1, p2, x2, i3, v0, l0, rfl, -, -, -, ⟨t2, -, -⟩, -, k0⟩ := At.pat h
    obtain ⟨a2, c2, rfl⟩ := t2.form
    obtain ⟨d0, e0, rfl, -⟩ := k0.form
    exact ⟨i0, s1, a2, _, c2, i3, d0, _, e0, rfl⟩
/-- What the values of a node look like. -/
theorem At.exp_form {w : World} {K : Nat → Prop} {n : Nat} {vs : List Value} {nd : Nd} (h : At w K n 2 vs nd) : ∃ (i0 : Int) (i1 : Int) (i2 : Int) (a3 : Option Addr) (n3 c3 : Nat) (d0 : Option Addr) (m0 e0 : Nat) (d1 : Option Addr) (m1 e1 : Nat) (d2 : Option Addr) (m2 e2 : Nat) (d3 : Option Addr) (m3 e3 : Nat), vs = [.int .i64 i0, .int .i64 i1, .int .i64 i2, .slice a3 n3 c3, .slice d0 m0 e0, .slice d1 m1 e1, .slice d2 m2 e2, .slice d3 m3 e3] := by
  cases n with
  | zero => exact h.elim
  | succ n =>
    obtain ⟨i0, i1, i2, p3, x3, v0, l0, v1, l1, v2, l2, v3, l3, rfl, -, -, -, -, ⟨t3, -, -⟩, k0, k1, k2, k3⟩ := At.exp h
    obtain ⟨a3, c3, rfl⟩ := t3.form
    obtain ⟨d0, e0, rfl, -⟩ := k0.form
    obtain ⟨d1, e1, rfl, -⟩ := k1.form
    obtain ⟨d2, e2, rfl, -⟩ := k2.form
    obtain ⟨d3, e3, rfl, -⟩ := k3.form
    exact ⟨i0, i1, i2, a3, _, c3, d0, _, e0, d1, _, e1, d2, _, e2, d3, _, e3, rfl⟩
/-- What the values of a node look like. -/
theorem At.dec_form {w : World} {K : Nat → Prop} {n : Nat} {vs : List Value} {nd : Nd} (h : At w K n 3 vs nd) : ∃ (i0 : Int) (i1 : Int) (s2 : ByteArray) (a3 : Option Addr) (n3 c3 : Nat) (d0 : Option Addr) (m0 e0 : Nat) (d1 : Option Addr) (m1 e1 : Nat) (d2 : Option Addr) (m2 e2 : Nat) (d3 : Option Addr) (m3 e3 : Nat) (d4 : Option Addr) (m4 e4 : Nat), vs = [.int .i64 i0, .int .i64 i1, .string s2, .slice a3 n3 c3, .slice d0 m0 e0, .slice d1 m1 e1, .slice d2 m2 e2, .slice d3 m3 e3, .slice d4 m4 e4] := by
  cases n with
  | zero => exact h.elim
  | succ n =>
    obtain ⟨i0, i1, s2, p3, x3, v0, l0, v1, l1, v2, l2, v3, l3, v4, l4, rfl, -, -, -, -, ⟨t3, -, -⟩, k0, k1, k2, k3, k4⟩ := At.dec h
    obtain ⟨a3, c3, rfl⟩ := t3.form
    obtain ⟨d0, e0, rfl, -⟩ := k0.form
    obtain ⟨d1, e1, rfl, -⟩ := k1.form
    obtain ⟨d2, e2, rfl, -⟩ := k2.form
    obtain ⟨d3, e3, rfl, -⟩ := k3.form
    obtain ⟨d4, e4, rfl, -⟩ := k4.form
    exact ⟨i0, i1, s2, a3, _, c3, d0, _, e0, d1, _, e1, d2, _, e2, d3, _, e3, d4, _, e4, rfl⟩
/-- What the values of a node look like. -/
theorem At.con_form {w : World} {K : Nat → Prop} {n : Nat} {vs : List Value} {nd : Nd} (h : At w K n 4 vs nd) : ∃ (s0 : ByteArray) (d0 : Option Addr) (m0 e0 : Nat), vs = [.string s0, .slice d0 m0 e0] := by
  cases n with
  | zero => exact h.elim
  | succ n =>
    obtain ⟨s0, v0, l0, rfl, -, -, k0⟩ := At.con h
    obtain ⟨d0, e0, rfl, -⟩ := k0.form
    exact ⟨s0, d0, _, e0, rfl⟩
/-- What the values of a node look like. -/
theorem At.mod_form {w : World} {K : Nat → Prop} {n : Nat} {vs : List Value} {nd : Nd} (h : At w K n 5 vs nd) : ∃ (i0 : Int) (a1 : Option Addr) (n1 c1 : Nat) (d0 : Option Addr) (m0 e0 : Nat) (d1 : Option Addr) (m1 e1 : Nat) (d2 : Option Addr) (m2 e2 : Nat), vs = [.int .i64 i0, .slice a1 n1 c1, .slice d0 m0 e0, .slice d1 m1 e1, .slice d2 m2 e2] := by
  cases n with
  | zero => exact h.elim
  | succ n =>
    obtain ⟨i0, p1, x1, v0, l0, v1, l1, v2, l2, rfl, -, -, ⟨t1, -, -⟩, k0, k1, k2⟩ := At.mod h
    obtain ⟨a1, c1, rfl⟩ := t1.form
    obtain ⟨d0, e0, rfl, -⟩ := k0.form
    obtain ⟨d1, e1, rfl, -⟩ := k1.form
    obtain ⟨d2, e2, rfl, -⟩ := k2.form
    exact ⟨i0, a1, _, c1, d0, _, e0, d1, _, e1, d2, _, e2, rfl⟩
/-- What the values of a node look like. -/
theorem At.sig_form {w : World} {K : Nat → Prop} {n : Nat} {vs : List Value} {nd : Nd} (h : At w K n 6 vs nd) : ∃ (i0 : Int) (a1 : Option Addr) (n1 c1 : Nat) (d0 : Option Addr) (m0 e0 : Nat) (d1 : Option Addr) (m1 e1 : Nat) (d2 : Option Addr) (m2 e2 : Nat), vs = [.int .i64 i0, .slice a1 n1 c1, .slice d0 m0 e0, .slice d1 m1 e1, .slice d2 m2 e2] := by
  cases n with
  | zero => exact h.elim
  | succ n =>
    obtain ⟨i0, p1, x1, v0, l0, v1, l1, v2, l2, rfl, -, -, ⟨t1, -, -⟩, k0, k1, k2⟩ := At.sig h
    obtain ⟨a1, c1, rfl⟩ := t1.form
    obtain ⟨d0, e0, rfl, -⟩ := k0.form
    obtain ⟨d1, e1, rfl, -⟩ := k1.form
    obtain ⟨d2, e2, rfl, -⟩ := k2.form
    exact ⟨i0, a1, _, c1, d0, _, e0, d1, _, e1, d2, _, e2, rfl⟩
/-- What the values of a node look like. -/
theorem At.spec_form {w : World} {K : Nat → Prop} {n : Nat} {vs : List Value} {nd : Nd} (h : At w K n 7 vs nd) : ∃ (i0 : Int) (i1 : Int) (s2 : ByteArray) (d0 : Option Addr) (m0 e0 : Nat) (d1 : Option Addr) (m1 e1 : Nat) (d2 : Option Addr) (m2 e2 : Nat), vs = [.int .i64 i0, .int .i64 i1, .string s2, .slice d0 m0 e0, .slice d1 m1 e1, .slice d2 m2 e2] := by
  cases n with
  | zero => exact h.elim
  | succ n =>
    obtain ⟨i0, i1, s2, v0, l0, v1, l1, v2, l2, rfl, -, -, -, -, k0, k1, k2⟩ := At.spec h
    obtain ⟨d0, e0, rfl, -⟩ := k0.form
    obtain ⟨d1, e1, rfl, -⟩ := k1.form
    obtain ⟨d2, e2, rfl, -⟩ := k2.form
    exact ⟨i0, i1, s2, d0, _, e0, d1, _, e1, d2, _, e2, rfl⟩
-- end opens
end Go.Proofs.YtjodgnkhociaaaaGreat.Tre
