/- Lists of nodes laid anew: Clone, each, fresh. -/
import Derived.Test.YtgiegjghldhppabGreatNdY1
namespace Go.Proofs.YtgiegjghldhppabGreat
open Go.RowKit
set_option linter.unusedVariables false

/-- Nodes lie one behind the other from o on in block b. -/
def Lay (w : World) (K : Nat → Prop) (n s b o : Nat) (l : List Nd) : Prop := ∀ (i : Nat) x, l[i]? = some x → ∃ vs, vs.length = Nd.size s ∧ Cells w b (o + i * Nd.size s) vs ∧ At w K n s vs x
theorem All3.mid {α β γ : Type} {R : α → β → γ → Prop} : ∀ {aa : List α} {bb : List β} {cs : List γ}, All3 R aa bb cs → ∀ u ∈ bb, ∃ x y, R x u y
  | [], [], [], _, u, hu => by cases hu
  | a :: aa, b :: bb, c :: cs, h, u, hu => by
    rcases List.mem_cons.1 hu with rfl | hu
    · exact ⟨a, c, h.1⟩
    · exact All3.mid h.2 u hu
theorem At.one {w : World} {K : Nat → Prop} {n s : Nat} {vs : List Value} {nd : Nd} (h : At w K n s vs nd) : ∀ u ∈ vs, u.oneCell' = true := by
  cases n with
  | zero => exact h.elim
  | succ n =>
    obtain ⟨-, h1, h2⟩ := h
    intro u hu
    rw [← List.take_append_drop (Nd.shape s).length vs] at hu
    rcases List.mem_append.1 hu with hu | hu
    · obtain ⟨k, y, hk⟩ := h1.mid u hu
      cases k with
      | int => obtain ⟨i, rfl, -⟩ := hk; rfl
      | place => obtain ⟨i, rfl, -⟩ := hk; rfl
      | str => obtain ⟨i, rfl, -⟩ := hk; rfl
      | strs =>
        obtain ⟨xs, hk, -⟩ := hk
        obtain ⟨a, c, rfl⟩ := hk.form
        rfl
    · obtain ⟨k, y, hk⟩ := h2.mid u hu
      obtain ⟨a, c, rfl, -⟩ := AtL.form (s := k) hk
      rfl
theorem flat_gen {w : World} {K : Nat → Prop} {n s b : Nat} : ∀ (l : List Nd) (o : Nat), Lay w K n s b o l → ∃ vals : List Value, vals.length = l.length * Nd.size s ∧ (∀ u ∈ vals, u.oneCell' = true) ∧ ∀ (j : Nat) u, vals[j]? = some u → w.cell? ⟨b, o + j, none⟩ = some u
  | [], o, h => ⟨[], by simp, (fun u hu => by cases hu), fun j u hu => by simp at hu⟩
  | x :: r, o, h => by
    obtain ⟨vs, h1, h2, h3⟩ := h 0 x rfl
    obtain ⟨vals, f1, f2, f3⟩ := flat_gen r (o + Nd.size s) (fun i y hy => by
      obtain ⟨ws, g1, g2, g3⟩ := h (i + 1) y (by simpa using hy)
      refine ⟨ws, g1, ?_, g3⟩
      rw [show o + Nd.size s + i * Nd.size s = o + (i + 1) * Nd.size s by rw [Nat.succ_mul]; omega]
      exact g2)
    refine ⟨vs ++ vals, ?_, fun u hu => ?_, fun j u hu => ?_⟩
    · rw [List.length_append, f1, h1, List.length_cons, Nat.succ_mul]; omega
    · rcases List.mem_append.1 hu with hu | hu
      · exact h3.one u hu
      · exact f2 u hu
    · by_cases hj : j < vs.length
      · rw [List.getElem?_append_left hj] at hu
        have := h2 j u hu
        simpa using this
      · rw [List.getElem?_append_right (by omega)] at hu
        have := f3 _ u hu
        rw [show o + Nd.size s + (j - vs.length) = o + j by omega] at this
        exact this
theorem Nd.len_le_wt : ∀ l : List Nd, l.length ≤ Nd.wtL l
  | [] => Nat.le_refl _
  | x :: r => by
    have := Nd.len_le_wt r
    have h1 : 1 ≤ x.wt := by obtain ⟨sc, ks⟩ := x; rw [Nd.wt]; omega
    rw [Nd.wtL, List.length_cons]; omega
theorem Nd.wt_mem : ∀ {l : List Nd} {x : Nd} {i : Nat}, l[i]? = some x → x.wt ≤ Nd.wtL l
  | y :: r, x, 0, h => by
    obtain rfl : y = x := by simpa using h
    rw [Nd.wtL]; omega
  | y :: r, x, i + 1, h => by
    have := Nd.wt_mem (l := r) (i := i) (by simpa using h)
    rw [Nd.wtL]; omega
/-- Where declarations stand, told in both. -/
def Pl (s : Nat) (w : World) (b o : Nat) (w' : World) (b' o' m : Nat) : Prop := s = 3 → ∀ i, i < m → w'.cell? ⟨b', o' + i * 9 + 1, none⟩ = w.cell? ⟨b, o + i * 9 + 1, none⟩
/-- A copy of a list's own cells, in a new block, which may be written. -/
structure Cop (w : World) (n s b o : Nat) (l : List Nd) (g c : Nat) (w' : World) : Prop where
  new : w.heap.size ≤ g
  lt : g < w'.heap.size
  cap : l.length ≤ c
  mx : c ≤ maxLen
  lay : Lay w' (Old w) n s g 0 l
  fz : ∀ j, w'.frozen? ⟨g, j, none⟩ = false
  pl : Pl s w b o w' g 0 l.length
  bl : Below w.heap.size w w'
def CloneOf (f : FuncId) (s : Nat) : Prop :=
  (∀ (w : World) (K : Nat → Prop) (n b o c : Nat) (l : List Nd), l ≠ [] → l.length ≤ 1048576 → Lay w K n s b o l → Calls Tryz.prog f #[.slice (some ⟨b, o, none⟩) l.length c] w fun e w' => ∃ g c', e = .returned (.slice (some ⟨g, 0, none⟩) l.length c') ∧ Cop w n s b o l g c' w') ∧
  ∀ (w : World) (p : Option Addr) (c : Nat), Calls Tryz.prog f #[.slice p 0 c] w fun e w' => ∃ p' c', e = .returned (.slice p' 0 c') ∧ Below w.heap.size w w'
theorem Lay.cell {w : World} {K : Nat → Prop} {n s b o : Nat} {l : List Nd} (h : Lay w K n s b o l) {i j : Nat} (hi : i < l.length) (hj : j < Nd.size s) : ∃ u, w.cell? ⟨b, o + i * Nd.size s + j, none⟩ = some u := by
  obtain ⟨vs, h1, h2, -⟩ := h i _ (List.getElem?_eq_getElem hi)
  exact ⟨_, h2 j _ (List.getElem?_eq_getElem (by omega))⟩
theorem clone_of {f : FuncId} {e : TypeId} {s k : Nat} (hk : Nd.size s = k) (hr : ∀ (w : World) (a : Addr) (n c : Nat) (vals : List Value), vals.length = n * k → (∀ (j : Nat) u, vals[j]? = some u → w.cell? (a.add j) = some u) → (∀ u ∈ vals, u.oneCell' = true) → n ≤ 1048576 → Calls Tryz.prog f #[.slice (some a) n c] w (Cloned w e k n vals))
    (hn : ∀ (w : World) (n c : Nat), Calls Tryz.prog f #[.slice none n c] w fun e w' => e = .returned (.slice none 0 0) ∧ w' = w) : CloneOf f s := by
  subst hk
  refine ⟨fun w K n b o c l h0 hl hL => ?_, fun w p c => ?_⟩
  · obtain ⟨vals, f1, f2, f3⟩ := flat_gen l o hL
    refine (hr w ⟨b, o, none⟩ l.length c vals f1 (fun j u hu => by rw [Nd.addr_add]; exact f3 j u hu) f2 hl).mono ?_
    rintro x w' ⟨v', rfl, ⟨hvl, h | ⟨g, cap, cur, rfl, hg, hh, hc, hx, hsz, ht⟩⟩, hb⟩
    · exact absurd (List.eq_nil_of_length_eq_zero h.2) h0
    · have hcell : ∀ (j : Nat) u, j < l.length * Nd.size s → w.cell? ⟨b, o + j, none⟩ = some u → w'.cell? ⟨g, 0 + j, none⟩ = some u := by
        intro j u hj hu
        have hv : vals[j]? = some u := by
          have h5 : j < vals.length := by omega
          have h6 := f3 j _ (List.getElem?_eq_getElem h5)
          rw [hu] at h6
          rw [List.getElem?_eq_getElem h5, h6]
        rw [← ht, List.getElem?_take_of_lt hj] at hv
        rw [Nat.zero_add]
        simpa [World.cell?, hh] using hv
      have hgl : g < w'.heap.size := by
        rcases Nat.lt_or_ge g w'.heap.size with h' | h'
        · exact h'
        · rw [Array.getElem?_eq_none h'] at hh; cases hh
      have hin : ∀ i j, i < l.length → j < Nd.size s → i * Nd.size s + j < l.length * Nd.size s := by
        intro i j hi hj
        have := Nat.mul_le_mul_right (Nd.size s) (show i + 1 ≤ l.length from hi)
        rw [Nat.succ_mul] at this
        omega
      refine ⟨g, cap, rfl, hg, hgl, hc, hx, fun i x hx => ?_, fun j => ?_, fun hs i hi => ?_, hb⟩
      · obtain ⟨vs, h1, h2, h3⟩ := hL i x hx
        refine ⟨vs, h1, fun j u hu => ?_, At.move (Keeps.of_below hb) (fun _ h => h) _ _ _ _ h3.old⟩
        have hi := (List.getElem?_eq_some_iff.1 hx).1
        have hj := (List.getElem?_eq_some_iff.1 hu).1
        have := hcell (i * Nd.size s + j) u (hin i j hi (by omega)) (by rw [← Nat.add_assoc]; exact h2 j u hu)
        rw [← Nat.add_assoc] at this
        exact this
      · simp [World.frozen?, hh]
      · subst hs
        obtain ⟨u, hu⟩ := hL.cell hi (show 1 < Nd.size 3 by decide)
        have := hcell (i * Nd.size 3 + 1) u (hin i 1 hi (by decide)) (by rw [← Nat.add_assoc]; exact hu)
        rw [← Nat.add_assoc] at this
        exact this.trans hu.symm
  · cases p with
    | none => exact (hn w 0 c).mono fun e w' ⟨h1, h2⟩ => ⟨none, 0, h1, by rw [h2]; exact Below.refl _ _⟩
    | some a =>
      refine (hr w a 0 c [] (Nat.zero_mul _).symm (fun j u hu => by simp at hu) (fun u hu => by cases hu) (by omega)).mono ?_
      rintro x w' ⟨v', rfl, ⟨hvl, h | ⟨g, cap, cur, rfl, -⟩⟩, hb⟩
      · exact ⟨none, 0, by rw [h.1], hb⟩
      · exact ⟨_, _, rfl, hb⟩
theorem cloneS (w : World) (K : Nat → Prop) (v : Value) (xs : List ByteArray) (hv : Tx w K v xs) (hl : xs.length ≤ 1048576) : Calls Tryz.prog 25 #[v] w fun e w' => ∃ v', e = .returned v' ∧ Tx w' (Frm w.heap.size w') v' xs ∧ Below w.heap.size w w' := by
  rcases hv with ⟨b, o, c, rfl, -, -, hc⟩ | ⟨rfl, p, c, rfl⟩
  · refine (clone_rawS w ⟨b, o, none⟩ xs.length c (xs.map Value.string) (by simp) (fun j u hu => ?_) (fun u hu => by obtain ⟨x, _, rfl⟩ := List.mem_map.1 hu; rfl) hl).mono ?_
    · rw [List.getElem?_map] at hu
      obtain ⟨x, hx, rfl⟩ := Option.map_eq_some_iff.1 hu
      rw [Nd.addr_add]
      exact hc j x hx
    · rintro x w' ⟨v', rfl, ⟨hvl, h | ⟨g, cap, cur, rfl, hg, hh, hcc, hx, hsz, ht⟩⟩, hb⟩
      · exact ⟨_, rfl, .inr ⟨List.eq_nil_of_length_eq_zero h.2, _, _, by rw [h.1]⟩, hb⟩
      · refine ⟨_, rfl, .inl ⟨g, 0, cap, rfl, ⟨hg, (by
          rcases Nat.lt_or_ge g w'.heap.size with h' | h'
          · exact h'
          · rw [Array.getElem?_eq_none h'] at hh; cases hh), fun o => by simp [World.frozen?, hh]⟩, hcc, fun j x hx => ?_⟩, hb⟩
        have hv : (xs.map Value.string)[j]? = some (.string x) := by rw [List.getElem?_map, hx]; rfl
        rw [← ht, List.getElem?_take] at hv
        split at hv
        · rw [Nat.zero_add]
          simpa [World.cell?, hh] using hv
        · cases hv
  · cases p with
    | none => exact (clone_nilS w 0 c).mono fun e w' ⟨h1, h2⟩ => ⟨_, h1, .inr ⟨rfl, _, _, rfl⟩, by rw [h2]; exact Below.refl _ _⟩
    | some a =>
      refine (clone_rawS w a 0 c [] (Nat.zero_mul _).symm (fun j u hu => by simp at hu) (fun u hu => by cases hu) (by omega)).mono ?_
      rintro x w' ⟨v', rfl, ⟨hvl, h | ⟨g, cap, cur, rfl, -⟩⟩, hb⟩
      · exact ⟨_, rfl, .inr ⟨rfl, _, _, by rw [h.1]⟩, hb⟩
      · exact ⟨_, rfl, .inr ⟨rfl, _, _, rfl⟩, hb⟩
/-- What the contract of a function that lays a node anew says. -/
def FreshOf (f : FuncId) (n s : Nat) : Prop := ∀ (w : World) (K : Nat → Prop) (b o : Nat) (vs : List Value) (nd : Nd), ¬ K b → Cells w b o vs → At w K n s vs nd → (∀ j, j < Nd.size s → w.frozen? ⟨b, o + j, none⟩ = false) → nd.wt ≤ 1048576 →
  Calls Tryz.prog f #[.pointer (some ⟨b, o, none⟩)] w fun e w' => e = .returned (.tuple #[]) ∧ ∃ vs', vs'.length = Nd.size s ∧ At w' (Frm w.heap.size w') n s vs' nd ∧ (s = 3 → vs'[1]? = vs[1]?) ∧ Fs w b o vs' (fun _ => True) w'
/-- The declarations of a list lie in a block of their own, which may be written; what hangs on them lies behind it. -/
structure Own (w : World) (n : Nat) (w' : World) (b c : Nat) (l : List Nd) : Prop where
  new : w.heap.size ≤ b
  lt : b < w'.heap.size
  cap : l.length ≤ c
  mx : c ≤ maxLen
  lay : Lay w' (Frm (b + 1) w') n 3 b 0 l
  fz : ∀ j, w'.frozen? ⟨b, j, none⟩ = false
/-- Where the declarations of a copied list stand. -/
def PlOf (s n : Nat) (w : World) (v : Value) (w' : World) (v' : Value) (l : List Nd) : Prop := s = 3 → ∀ b o c, v = .slice (some ⟨b, o, none⟩) l.length c → l ≠ [] → ∃ b' c', v' = .slice (some ⟨b', 0, none⟩) l.length c' ∧ Own w n w' b' c' l ∧ Pl 3 w b o w' b' 0 l.length
theorem PlOf.nil (s n : Nat) (w w' : World) (v v' : Value) : PlOf s n w v w' v' [] := fun _ _ _ _ _ h => absurd rfl h
theorem PlOf.mk {s n b o c b' c' : Nat} {w w' : World} {l : List Nd} (hb : s = 3 → Own w n w' b' c' l) (h : Pl s w b o w' b' 0 l.length) : PlOf s n w (.slice (some ⟨b, o, none⟩) l.length c) w' (.slice (some ⟨b', 0, none⟩) l.length c') l := by
  intro hs b1 o1 c1 he _
  subst hs
  injection he with e1
  injection e1 with e1
  injection e1 with e2 e3
  subst e2; subst e3
  exact ⟨b', c', rfl, hb rfl, h⟩
/-- The same of a list. -/
def FreshLOf (f g : FuncId) (n s : Nat) : Prop := ∀ (w : World) (K : Nat → Prop) (v : Value) (l : List Nd), AtL w K n s v l → Nd.wtL l ≤ 1048576 →
  Calls Tryz.prog f #[v, .func (.func g) #[] #[]] w fun e w' => ∃ v', e = .returned v' ∧ AtL w' (Frm w.heap.size w') n s v' l ∧ Below w.heap.size w w' ∧ PlOf s n w v w' v' l
/-- Of the nodes of a list the first k are laid anew. -/
structure EInv (w : World) (K : Nat → Prop) (n s b o : Nat) (l : List Nd) (k : Nat) (W : World) : Prop where
  bes : Bs b w W
  z : ∀ j, w.frozen? ⟨b, j, none⟩ = false → W.frozen? ⟨b, j, none⟩ = false
  done : ∀ i x, i < k → l[i]? = some x → ∃ vs, vs.length = Nd.size s ∧ Cells W b (o + i * Nd.size s) vs ∧ At W (Frm w.heap.size W) n s vs x
  todo : ∀ i x, k ≤ i → l[i]? = some x → ∃ vs, vs.length = Nd.size s ∧ Cells W b (o + i * Nd.size s) vs ∧ At W K n s vs x
  pl : Pl s w b o W b o l.length
theorem EInv.start {w : World} {K : Nat → Prop} {n s b o : Nat} {l : List Nd} (h : Lay w K n s b o l) : EInv w K n s b o l 0 w :=
  ⟨Bs.refl _ _, fun _ h => h, fun i x hi => absurd hi (Nat.not_lt_zero _), fun i x _ hx => h i x hx, fun _ _ _ => rfl⟩
theorem size_apart {i k q : Nat} (h : i ≠ k) (j : Nat) (hj : j < q) (o : Nat) : o + i * q + j < o + k * q ∨ o + k * q + q ≤ o + i * q + j := by
  rcases Nat.lt_or_gt_of_ne h with h | h
  · left
    have := Nat.mul_le_mul_right q (show i + 1 ≤ k from h)
    rw [Nat.succ_mul] at this
    omega
  · right
    have := Nat.mul_le_mul_right q (show k + 1 ≤ i from h)
    rw [Nat.succ_mul] at this
    omega
theorem EInv.step {w : World} {K : Nat → Prop} {n s b o : Nat} {l : List Nd} {k : Nat} {W W' : World} {x : Nd} {vs vs' : List Value} (h : EInv w K n s b o l k W) (hK : ¬ K b) (hb : b < w.heap.size) (hx : l[k]? = some x)
    (hl : vs.length = Nd.size s) (hc : Cells W b (o + k * Nd.size s) vs) (hl' : vs'.length = Nd.size s) (ha : At W' (Frm W.heap.size W') n s vs' x) (hp : s = 3 → vs'[1]? = vs[1]?) (hF : Fs W b (o + k * Nd.size s) vs' (fun _ => True) W') : EInv w K n s b o l (k + 1) W' := by
  have far : ∀ (i : Nat) (us : List Value), i ≠ k → us.length = Nd.size s → Cells W b (o + i * Nd.size s) us → Cells W' b (o + i * Nd.size s) us := by
    intro i us hi hu hcu j v hv
    have hj := (List.getElem?_eq_some_iff.1 hv).1
    refine hF.r _ v ?_ (hcu j v hv)
    rw [hl']
    exact size_apart hi j (by omega) o
  refine ⟨h.bes.trans hF.bes, fun j hj => hF.z j (h.z j hj), fun i y hi hy => ?_, fun i y hi hy => ?_, fun hs i hi => ?_⟩
  · by_cases e : i = k
    · subst e
      obtain rfl : x = y := by rw [hx] at hy; exact Option.some.inj hy
      exact ⟨vs', hl', hF.c, At.move (Keeps.refl _ _) (Frm.le h.bes.size) _ _ _ _ ha⟩
    · obtain ⟨us, h1, h2, h3⟩ := h.done i y (by omega) hy
      exact ⟨us, h1, far i us e h1 h2, (Stp.of_bs hF.bes hb).at (Nat.le_refl _) h3⟩
  · obtain ⟨us, h1, h2, h3⟩ := h.todo i y (by omega) hy
    exact ⟨us, h1, far i us (by omega) h1 h2, At.move (hF.bes.keeps hK) (fun _ h => h) _ _ _ _ h3⟩
  · refine Eq.trans ?_ (h.pl hs i hi)
    subst hs
    by_cases e : i = k
    · subst e
      obtain ⟨u1, hv⟩ : ∃ u, vs[1]? = some u := ⟨_, List.getElem?_eq_getElem (by rw [hl]; decide)⟩
      have h1 := hc 1 _ hv
      have h2 := hF.c 1 _ ((hp rfl).trans hv)
      exact h2.trans h1.symm
    · have hex : ∃ us, us.length = Nd.size 3 ∧ Cells W b (o + i * Nd.size 3) us := by
        by_cases hik : i < k
        · obtain ⟨us, h1, h2, -⟩ := h.done i _ hik (List.getElem?_eq_getElem hi)
          exact ⟨us, h1, h2⟩
        · obtain ⟨us, h1, h2, -⟩ := h.todo i _ (by omega) (List.getElem?_eq_getElem hi)
          exact ⟨us, h1, h2⟩
      obtain ⟨us, h1, h2⟩ := hex
      obtain ⟨u1, hv⟩ : ∃ u, us[1]? = some u := ⟨_, List.getElem?_eq_getElem (by rw [h1]; decide)⟩
      exact (far i us e h1 h2 1 _ hv).trans (h2 1 _ hv).symm
theorem EInv.end {w W w0 : World} {n s b c b0 o0 : Nat} {l : List Nd} (h : EInv w (Old w0) n s b 0 l l.length W) (hC : Cop w0 n s b0 o0 l b c w) :
    AtL W (Frm w0.heap.size W) n s (.slice (some ⟨b, 0, none⟩) l.length c) l ∧ Below w0.heap.size w0 W ∧ Pl s w0 b0 o0 W b 0 l.length ∧ (s = 3 → Own w0 n W b c l) := by
  have hlt : b < W.heap.size := Nat.lt_of_lt_of_le hC.lt h.bes.size
  refine ⟨.inl ⟨b, 0, c, rfl, ⟨hC.new, hlt, fun o => h.z o (hC.fz o)⟩, hC.cap, Nat.le_trans hC.cap hC.mx, fun i x hx => ?_⟩, hC.bl.trans (h.bes.under hC.new (by exact hC.bl.size)), fun hs i hi => (h.pl hs i hi).trans (hC.pl hs i hi), fun hs => ⟨hC.new, hlt, hC.cap, hC.mx, fun i x hx => ?_, fun j => h.z j (hC.fz j)⟩⟩
  · obtain ⟨vs, h1, h2, h3⟩ := h.done i x (List.getElem?_eq_some_iff.1 hx).1 hx
    exact ⟨vs, h1, h2, At.move (Keeps.refl _ _) (Frm.le hC.bl.size) _ _ _ _ h3⟩
  · subst hs
    obtain ⟨vs, h1, h2, h3⟩ := h.done i x (List.getElem?_eq_some_iff.1 hx).1 hx
    exact ⟨vs, h1, h2, At.move (Keeps.refl _ _) (Frm.le hC.lt) _ _ _ _ h3⟩


theorem cloneOf0 : CloneOf 62 0 := clone_of rfl (clone_raw0) clone_nil0
set_option maxHeartbeats 1000000 in
theorem each_none0 (w : World) (g : FuncId) (p : Option Addr) (c : Nat) : Calls Tryz.prog 52 #[.slice p 0 c, .func (.func g) #[] #[]] w fun e w' => e = .returned (.tuple #[]) ∧ w' = w := by
  go_enter Tryz.func52, Tryz.ntmps52
  go_wp2
  go_loopw [7] (fun v wr => v = .int .i64 0 ∧ wr = w) (fun _ _ => 0)
  case atStart => exact ⟨rfl, rfl⟩
  case round =>
    obtain ⟨rfl, rfl⟩ := hrel
    go_wp2
    go_end0
    exact ⟨rfl, rfl⟩
set_option maxHeartbeats 1000000 in
theorem eachF0 (n : Nat) (ih : FreshOf 27 n 0) (w : World) (K : Nat → Prop) (b o c : Nat) (l : List Nd) (hK : ¬ K b) (hb : b < w.heap.size) (hL : Lay w K n 0 b o l) (hx : l.length ≤ maxLen) (hf : ∀ j, j < l.length * 4 → w.frozen? ⟨b, o + j, none⟩ = false) (hw : Nd.wtL l ≤ 1048576) :
    Calls Tryz.prog 52 #[.slice (some ⟨b, o, none⟩) l.length c, .func (.func 27) #[] #[]] w fun e w' => e = .returned (.tuple #[]) ∧ EInv w K n 0 b o l l.length w' := by
  unfold maxLen at hx
  have h0 := EInv.start hL
  clear hL
  go_enter Tryz.func52, Tryz.ntmps52
  go_wp2
  go_loopw [7] (fun v wr => ∃ k : Nat, v = .int .i64 k ∧ k ≤ l.length ∧ EInv w K n 0 b o l k wr) (fun v _ => l.length - (intOf v).toNat)
  case atStart => exact ⟨0, rfl, Nat.zero_le _, h0⟩
  case round =>
    obtain ⟨k, rfl, hkl, hE⟩ := hrel
    by_cases hlt : k < l.length
    · obtain ⟨x, hxk⟩ : ∃ x, l[k]? = some x := ⟨_, List.getElem?_eq_getElem hlt⟩
      obtain ⟨vs, hl1, hc1, ha1⟩ := hE.todo k x (Nat.le_refl _) hxk
      have hq := ih wr K b (o + k * 4) vs x hK hc1 ha1 (fun j hj => hE.z _ (by
        have hj' : j < 4 := hj
        rw [Nat.add_assoc]; exact hf _ (by omega))) (Nat.le_trans (Nd.wt_mem hxk) hw)
      have HS := fun (W' : World) (vs' : List Value) a1 a2 a3 a4 => EInv.step (W' := W') (vs' := vs') hE hK hb hxk hl1 hc1 a1 a2 a3 a4
      clear hE hf hw hxk ha1
      go_wp2_with (go_at_call 27; refine hq.mono ?_; rintro e w2 ⟨rfl, vs', a1, a2, a3, a4⟩)
      go_roundw
      case rel => exact ⟨k + 1, by go_num, by omega, HS _ _ a1 a2 a3 a4⟩
      case measure => simp [intOf]; omega
    · obtain rfl : k = l.length := by omega
      go_wp2
      go_end0
      exact ⟨rfl, hE⟩
set_option maxHeartbeats 1000000 in
theorem freshL0 (n : Nat) (ih : FreshOf 27 n 0) : FreshLOf 26 27 n 0 := by
  intro w K v l hv hw
  have hll : l.length ≤ 1048576 := Nat.le_trans (Nd.len_le_wt l) hw
  by_cases h0 : l = []
  · subst h0
    obtain ⟨a1, c1, e1, -⟩ := hv.form
    subst e1
    clear hv
    have qc := cloneOf0.2 w a1 c1
    go_enter Tryz.func26, Tryz.ntmps26
    go_wp2_with (first | (go_at_call 52; refine (each_none0 _ _ _ _).mono ?_; rintro e w2 ⟨rfl, rfl⟩) | (go_at_call 62; refine qc.mono ?_; rintro e w1 ⟨p, c, rfl, hb1⟩))
    go_ret
    exact ⟨_, rfl, .inr ⟨rfl, _, _, rfl⟩, hb1, PlOf.nil _ _ _ _ _ _⟩
  · obtain ⟨b, o, c, rfl, -, -, -, hk⟩ := hv.resolve_right (fun h => h0 h.1)
    clear hv
    have qc := cloneOf0.1 w K n b o c l h0 hll hk
    have QE : Hid (∀ (w1 : World) (g c' : Nat), Cop w n 0 b o l g c' w1 → _) := fun w1 g c' hC => eachF0 n ih w1 (Old w) g 0 c' l (fun h => absurd h (Nat.not_lt.2 hC.new)) hC.lt hC.lay (Nat.le_trans hC.cap hC.mx) (fun j hj => by rw [Nat.zero_add]; exact hC.fz j) hw
    clear hk ih
    go_enter Tryz.func26, Tryz.ntmps26
    go_wp2_with (first | (go_at_call 52; refine (QE.out _ _ _ hC).mono ?_; rintro e w2 ⟨rfl, hE⟩) | (go_at_call 62; refine qc.mono ?_; rintro e w1 ⟨g, c', rfl, hC⟩))
    go_ret
    obtain ⟨r1, r2, r3, r4⟩ := hE.end hC
    exact ⟨_, rfl, r1, r2, PlOf.mk r4 r3⟩

theorem cloneOf1 : CloneOf 95 1 := clone_of rfl (clone_raw1) clone_nil1
set_option maxHeartbeats 1000000 in
theorem each_none1 (w : World) (g : FuncId) (p : Option Addr) (c : Nat) : Calls Tryz.prog 77 #[.slice p 0 c, .func (.func g) #[] #[]] w fun e w' => e = .returned (.tuple #[]) ∧ w' = w := by
  go_enter Tryz.func77, Tryz.ntmps77
  go_wp2
  go_loopw [7] (fun v wr => v = .int .i64 0 ∧ wr = w) (fun _ _ => 0)
  case atStart => exact ⟨rfl, rfl⟩
  case round =>
    obtain ⟨rfl, rfl⟩ := hrel
    go_wp2
    go_end0
    exact ⟨rfl, rfl⟩
set_option maxHeartbeats 1000000 in
theorem eachF1 (n : Nat) (ih : FreshOf 65 n 1) (w : World) (K : Nat → Prop) (b o c : Nat) (l : List Nd) (hK : ¬ K b) (hb : b < w.heap.size) (hL : Lay w K n 1 b o l) (hx : l.length ≤ maxLen) (hf : ∀ j, j < l.length * 5 → w.frozen? ⟨b, o + j, none⟩ = false) (hw : Nd.wtL l ≤ 1048576) :
    Calls Tryz.prog 77 #[.slice (some ⟨b, o, none⟩) l.length c, .func (.func 65) #[] #[]] w fun e w' => e = .returned (.tuple #[]) ∧ EInv w K n 1 b o l l.length w' := by
  unfold maxLen at hx
  have h0 := EInv.start hL
  clear hL
  go_enter Tryz.func77, Tryz.ntmps77
  go_wp2
  go_loopw [7] (fun v wr => ∃ k : Nat, v = .int .i64 k ∧ k ≤ l.length ∧ EInv w K n 1 b o l k wr) (fun v _ => l.length - (intOf v).toNat)
  case atStart => exact ⟨0, rfl, Nat.zero_le _, h0⟩
  case round =>
    obtain ⟨k, rfl, hkl, hE⟩ := hrel
    by_cases hlt : k < l.length
    · obtain ⟨x, hxk⟩ : ∃ x, l[k]? = some x := ⟨_, List.getElem?_eq_getElem hlt⟩
      obtain ⟨vs, hl1, hc1, ha1⟩ := hE.todo k x (Nat.le_refl _) hxk
      have hq := ih wr K b (o + k * 5) vs x hK hc1 ha1 (fun j hj => hE.z _ (by
        have hj' : j < 5 := hj
        rw [Nat.add_assoc]; exact hf _ (by omega))) (Nat.le_trans (Nd.wt_mem hxk) hw)
      have HS := fun (W' : World) (vs' : List Value) a1 a2 a3 a4 => EInv.step (W' := W') (vs' := vs') hE hK hb hxk hl1 hc1 a1 a2 a3 a4
      clear hE hf hw hxk ha1
      go_wp2_with (go_at_call 65; refine hq.mono ?_; rintro e w2 ⟨rfl, vs', a1, a2, a3, a4⟩)
      go_roundw
      case rel => exact ⟨k + 1, by go_num, by omega, HS _ _ a1 a2 a3 a4⟩
      case measure => simp [intOf]; omega
    · obtain rfl : k = l.length := by omega
      go_wp2
      go_end0
      exact ⟨rfl, hE⟩
set_option maxHeartbeats 1000000 in
theorem freshL1 (n : Nat) (ih : FreshOf 65 n 1) : FreshLOf 64 65 n 1 := by
  intro w K v l hv hw
  have hll : l.length ≤ 1048576 := Nat.le_trans (Nd.len_le_wt l) hw
  by_cases h0 : l = []
  · subst h0
    obtain ⟨a1, c1, e1, -⟩ := hv.form
    subst e1
    clear hv
    have qc := cloneOf1.2 w a1 c1
    go_enter Tryz.func64, Tryz.ntmps64
    go_wp2_with (first | (go_at_call 77; refine (each_none1 _ _ _ _).mono ?_; rintro e w2 ⟨rfl, rfl⟩) | (go_at_call 95; refine qc.mono ?_; rintro e w1 ⟨p, c, rfl, hb1⟩))
    go_ret
    exact ⟨_, rfl, .inr ⟨rfl, _, _, rfl⟩, hb1, PlOf.nil _ _ _ _ _ _⟩
  · obtain ⟨b, o, c, rfl, -, -, -, hk⟩ := hv.resolve_right (fun h => h0 h.1)
    clear hv
    have qc := cloneOf1.1 w K n b o c l h0 hll hk
    have QE : Hid (∀ (w1 : World) (g c' : Nat), Cop w n 1 b o l g c' w1 → _) := fun w1 g c' hC => eachF1 n ih w1 (Old w) g 0 c' l (fun h => absurd h (Nat.not_lt.2 hC.new)) hC.lt hC.lay (Nat.le_trans hC.cap hC.mx) (fun j hj => by rw [Nat.zero_add]; exact hC.fz j) hw
    clear hk ih
    go_enter Tryz.func64, Tryz.ntmps64
    go_wp2_with (first | (go_at_call 77; refine (QE.out _ _ _ hC).mono ?_; rintro e w2 ⟨rfl, hE⟩) | (go_at_call 95; refine qc.mono ?_; rintro e w1 ⟨g, c', rfl, hC⟩))
    go_ret
    obtain ⟨r1, r2, r3, r4⟩ := hE.end hC
    exact ⟨_, rfl, r1, r2, PlOf.mk r4 r3⟩

theorem cloneOf2 : CloneOf 63 2 := clone_of rfl (clone_raw2) clone_nil2
set_option maxHeartbeats 1000000 in
theorem each_none2 (w : World) (g : FuncId) (p : Option Addr) (c : Nat) : Calls Tryz.prog 54 #[.slice p 0 c, .func (.func g) #[] #[]] w fun e w' => e = .returned (.tuple #[]) ∧ w' = w := by
  go_enter Tryz.func54, Tryz.ntmps54
  go_wp2
  go_loopw [7] (fun v wr => v = .int .i64 0 ∧ wr = w) (fun _ _ => 0)
  case atStart => exact ⟨rfl, rfl⟩
  case round =>
    obtain ⟨rfl, rfl⟩ := hrel
    go_wp2
    go_end0
    exact ⟨rfl, rfl⟩
set_option maxHeartbeats 1000000 in
theorem eachF2 (n : Nat) (ih : FreshOf 29 n 2) (w : World) (K : Nat → Prop) (b o c : Nat) (l : List Nd) (hK : ¬ K b) (hb : b < w.heap.size) (hL : Lay w K n 2 b o l) (hx : l.length ≤ maxLen) (hf : ∀ j, j < l.length * 8 → w.frozen? ⟨b, o + j, none⟩ = false) (hw : Nd.wtL l ≤ 1048576) :
    Calls Tryz.prog 54 #[.slice (some ⟨b, o, none⟩) l.length c, .func (.func 29) #[] #[]] w fun e w' => e = .returned (.tuple #[]) ∧ EInv w K n 2 b o l l.length w' := by
  unfold maxLen at hx
  have h0 := EInv.start hL
  clear hL
  go_enter Tryz.func54, Tryz.ntmps54
  go_wp2
  go_loopw [7] (fun v wr => ∃ k : Nat, v = .int .i64 k ∧ k ≤ l.length ∧ EInv w K n 2 b o l k wr) (fun v _ => l.length - (intOf v).toNat)
  case atStart => exact ⟨0, rfl, Nat.zero_le _, h0⟩
  case round =>
    obtain ⟨k, rfl, hkl, hE⟩ := hrel
    by_cases hlt : k < l.length
    · obtain ⟨x, hxk⟩ : ∃ x, l[k]? = some x := ⟨_, List.getElem?_eq_getElem hlt⟩
      obtain ⟨vs, hl1, hc1, ha1⟩ := hE.todo k x (Nat.le_refl _) hxk
      have hq := ih wr K b (o + k * 8) vs x hK hc1 ha1 (fun j hj => hE.z _ (by
        have hj' : j < 8 := hj
        rw [Nat.add_assoc]; exact hf _ (by omega))) (Nat.le_trans (Nd.wt_mem hxk) hw)
      have HS := fun (W' : World) (vs' : List Value) a1 a2 a3 a4 => EInv.step (W' := W') (vs' := vs') hE hK hb hxk hl1 hc1 a1 a2 a3 a4
      clear hE hf hw hxk ha1
      go_wp2_with (go_at_call 29; refine hq.mono ?_; rintro e w2 ⟨rfl, vs', a1, a2, a3, a4⟩)
      go_roundw
      case rel => exact ⟨k + 1, by go_num, by omega, HS _ _ a1 a2 a3 a4⟩
      case measure => simp [intOf]; omega
    · obtain rfl : k = l.length := by omega
      go_wp2
      go_end0
      exact ⟨rfl, hE⟩
set_option maxHeartbeats 1000000 in
theorem freshL2 (n : Nat) (ih : FreshOf 29 n 2) : FreshLOf 28 29 n 2 := by
  intro w K v l hv hw
  have hll : l.length ≤ 1048576 := Nat.le_trans (Nd.len_le_wt l) hw
  by_cases h0 : l = []
  · subst h0
    obtain ⟨a1, c1, e1, -⟩ := hv.form
    subst e1
    clear hv
    have qc := cloneOf2.2 w a1 c1
    go_enter Tryz.func28, Tryz.ntmps28
    go_wp2_with (first | (go_at_call 54; refine (each_none2 _ _ _ _).mono ?_; rintro e w2 ⟨rfl, rfl⟩) | (go_at_call 63; refine qc.mono ?_; rintro e w1 ⟨p, c, rfl, hb1⟩))
    go_ret
    exact ⟨_, rfl, .inr ⟨rfl, _, _, rfl⟩, hb1, PlOf.nil _ _ _ _ _ _⟩
  · obtain ⟨b, o, c, rfl, -, -, -, hk⟩ := hv.resolve_right (fun h => h0 h.1)
    clear hv
    have qc := cloneOf2.1 w K n b o c l h0 hll hk
    have QE : Hid (∀ (w1 : World) (g c' : Nat), Cop w n 2 b o l g c' w1 → _) := fun w1 g c' hC => eachF2 n ih w1 (Old w) g 0 c' l (fun h => absurd h (Nat.not_lt.2 hC.new)) hC.lt hC.lay (Nat.le_trans hC.cap hC.mx) (fun j hj => by rw [Nat.zero_add]; exact hC.fz j) hw
    clear hk ih
    go_enter Tryz.func28, Tryz.ntmps28
    go_wp2_with (first | (go_at_call 54; refine (QE.out _ _ _ hC).mono ?_; rintro e w2 ⟨rfl, hE⟩) | (go_at_call 63; refine qc.mono ?_; rintro e w1 ⟨g, c', rfl, hC⟩))
    go_ret
    obtain ⟨r1, r2, r3, r4⟩ := hE.end hC
    exact ⟨_, rfl, r1, r2, PlOf.mk r4 r3⟩

theorem cloneOf3 : CloneOf 23 3 := clone_of rfl (clone_raw3) clone_nil3
set_option maxHeartbeats 1000000 in
theorem each_none3 (w : World) (g : FuncId) (p : Option Addr) (c : Nat) : Calls Tryz.prog 24 #[.slice p 0 c, .func (.func g) #[] #[]] w fun e w' => e = .returned (.tuple #[]) ∧ w' = w := by
  go_enter Tryz.func24, Tryz.ntmps24
  go_wp2
  go_loopw [7] (fun v wr => v = .int .i64 0 ∧ wr = w) (fun _ _ => 0)
  case atStart => exact ⟨rfl, rfl⟩
  case round =>
    obtain ⟨rfl, rfl⟩ := hrel
    go_wp2
    go_end0
    exact ⟨rfl, rfl⟩
set_option maxHeartbeats 1000000 in
theorem eachF3 (n : Nat) (ih : FreshOf 12 n 3) (w : World) (K : Nat → Prop) (b o c : Nat) (l : List Nd) (hK : ¬ K b) (hb : b < w.heap.size) (hL : Lay w K n 3 b o l) (hx : l.length ≤ maxLen) (hf : ∀ j, j < l.length * 9 → w.frozen? ⟨b, o + j, none⟩ = false) (hw : Nd.wtL l ≤ 1048576) :
    Calls Tryz.prog 24 #[.slice (some ⟨b, o, none⟩) l.length c, .func (.func 12) #[] #[]] w fun e w' => e = .returned (.tuple #[]) ∧ EInv w K n 3 b o l l.length w' := by
  unfold maxLen at hx
  have h0 := EInv.start hL
  clear hL
  go_enter Tryz.func24, Tryz.ntmps24
  go_wp2
  go_loopw [7] (fun v wr => ∃ k : Nat, v = .int .i64 k ∧ k ≤ l.length ∧ EInv w K n 3 b o l k wr) (fun v _ => l.length - (intOf v).toNat)
  case atStart => exact ⟨0, rfl, Nat.zero_le _, h0⟩
  case round =>
    obtain ⟨k, rfl, hkl, hE⟩ := hrel
    by_cases hlt : k < l.length
    · obtain ⟨x, hxk⟩ : ∃ x, l[k]? = some x := ⟨_, List.getElem?_eq_getElem hlt⟩
      obtain ⟨vs, hl1, hc1, ha1⟩ := hE.todo k x (Nat.le_refl _) hxk
      have hq := ih wr K b (o + k * 9) vs x hK hc1 ha1 (fun j hj => hE.z _ (by
        have hj' : j < 9 := hj
        rw [Nat.add_assoc]; exact hf _ (by omega))) (Nat.le_trans (Nd.wt_mem hxk) hw)
      have HS := fun (W' : World) (vs' : List Value) a1 a2 a3 a4 => EInv.step (W' := W') (vs' := vs') hE hK hb hxk hl1 hc1 a1 a2 a3 a4
      clear hE hf hw hxk ha1
      go_wp2_with (go_at_call 12; refine hq.mono ?_; rintro e w2 ⟨rfl, vs', a1, a2, a3, a4⟩)
      go_roundw
      case rel => exact ⟨k + 1, by go_num, by omega, HS _ _ a1 a2 a3 a4⟩
      case measure => simp [intOf]; omega
    · obtain rfl : k = l.length := by omega
      go_wp2
      go_end0
      exact ⟨rfl, hE⟩
set_option maxHeartbeats 1000000 in
theorem freshL3 (n : Nat) (ih : FreshOf 12 n 3) : FreshLOf 11 12 n 3 := by
  intro w K v l hv hw
  have hll : l.length ≤ 1048576 := Nat.le_trans (Nd.len_le_wt l) hw
  by_cases h0 : l = []
  · subst h0
    obtain ⟨a1, c1, e1, -⟩ := hv.form
    subst e1
    clear hv
    have qc := cloneOf3.2 w a1 c1
    go_enter Tryz.func11, Tryz.ntmps11
    go_wp2_with (first | (go_at_call 24; refine (each_none3 _ _ _ _).mono ?_; rintro e w2 ⟨rfl, rfl⟩) | (go_at_call 23; refine qc.mono ?_; rintro e w1 ⟨p, c, rfl, hb1⟩))
    go_ret
    exact ⟨_, rfl, .inr ⟨rfl, _, _, rfl⟩, hb1, PlOf.nil _ _ _ _ _ _⟩
  · obtain ⟨b, o, c, rfl, -, -, -, hk⟩ := hv.resolve_right (fun h => h0 h.1)
    clear hv
    have qc := cloneOf3.1 w K n b o c l h0 hll hk
    have QE : Hid (∀ (w1 : World) (g c' : Nat), Cop w n 3 b o l g c' w1 → _) := fun w1 g c' hC => eachF3 n ih w1 (Old w) g 0 c' l (fun h => absurd h (Nat.not_lt.2 hC.new)) hC.lt hC.lay (Nat.le_trans hC.cap hC.mx) (fun j hj => by rw [Nat.zero_add]; exact hC.fz j) hw
    clear hk ih
    go_enter Tryz.func11, Tryz.ntmps11
    go_wp2_with (first | (go_at_call 24; refine (QE.out _ _ _ hC).mono ?_; rintro e w2 ⟨rfl, hE⟩) | (go_at_call 23; refine qc.mono ?_; rintro e w1 ⟨g, c', rfl, hC⟩))
    go_ret
    obtain ⟨r1, r2, r3, r4⟩ := hE.end hC
    exact ⟨_, rfl, r1, r2, PlOf.mk r4 r3⟩

theorem cloneOf4 : CloneOf 66 4 := clone_of rfl (clone_raw4) clone_nil4
set_option maxHeartbeats 1000000 in
theorem each_none4 (w : World) (g : FuncId) (p : Option Addr) (c : Nat) : Calls Tryz.prog 55 #[.slice p 0 c, .func (.func g) #[] #[]] w fun e w' => e = .returned (.tuple #[]) ∧ w' = w := by
  go_enter Tryz.func55, Tryz.ntmps55
  go_wp2
  go_loopw [7] (fun v wr => v = .int .i64 0 ∧ wr = w) (fun _ _ => 0)
  case atStart => exact ⟨rfl, rfl⟩
  case round =>
    obtain ⟨rfl, rfl⟩ := hrel
    go_wp2
    go_end0
    exact ⟨rfl, rfl⟩
set_option maxHeartbeats 1000000 in
theorem eachF4 (n : Nat) (ih : FreshOf 31 n 4) (w : World) (K : Nat → Prop) (b o c : Nat) (l : List Nd) (hK : ¬ K b) (hb : b < w.heap.size) (hL : Lay w K n 4 b o l) (hx : l.length ≤ maxLen) (hf : ∀ j, j < l.length * 2 → w.frozen? ⟨b, o + j, none⟩ = false) (hw : Nd.wtL l ≤ 1048576) :
    Calls Tryz.prog 55 #[.slice (some ⟨b, o, none⟩) l.length c, .func (.func 31) #[] #[]] w fun e w' => e = .returned (.tuple #[]) ∧ EInv w K n 4 b o l l.length w' := by
  unfold maxLen at hx
  have h0 := EInv.start hL
  clear hL
  go_enter Tryz.func55, Tryz.ntmps55
  go_wp2
  go_loopw [7] (fun v wr => ∃ k : Nat, v = .int .i64 k ∧ k ≤ l.length ∧ EInv w K n 4 b o l k wr) (fun v _ => l.length - (intOf v).toNat)
  case atStart => exact ⟨0, rfl, Nat.zero_le _, h0⟩
  case round =>
    obtain ⟨k, rfl, hkl, hE⟩ := hrel
    by_cases hlt : k < l.length
    · obtain ⟨x, hxk⟩ : ∃ x, l[k]? = some x := ⟨_, List.getElem?_eq_getElem hlt⟩
      obtain ⟨vs, hl1, hc1, ha1⟩ := hE.todo k x (Nat.le_refl _) hxk
      have hq := ih wr K b (o + k * 2) vs x hK hc1 ha1 (fun j hj => hE.z _ (by
        have hj' : j < 2 := hj
        rw [Nat.add_assoc]; exact hf _ (by omega))) (Nat.le_trans (Nd.wt_mem hxk) hw)
      have HS := fun (W' : World) (vs' : List Value) a1 a2 a3 a4 => EInv.step (W' := W') (vs' := vs') hE hK hb hxk hl1 hc1 a1 a2 a3 a4
      clear hE hf hw hxk ha1
      go_wp2_with (go_at_call 31; refine hq.mono ?_; rintro e w2 ⟨rfl, vs', a1, a2, a3, a4⟩)
      go_roundw
      case rel => exact ⟨k + 1, by go_num, by omega, HS _ _ a1 a2 a3 a4⟩
      case measure => simp [intOf]; omega
    · obtain rfl : k = l.length := by omega
      go_wp2
      go_end0
      exact ⟨rfl, hE⟩
set_option maxHeartbeats 1000000 in
theorem freshL4 (n : Nat) (ih : FreshOf 31 n 4) : FreshLOf 30 31 n 4 := by
  intro w K v l hv hw
  have hll : l.length ≤ 1048576 := Nat.le_trans (Nd.len_le_wt l) hw
  by_cases h0 : l = []
  · subst h0
    obtain ⟨a1, c1, e1, -⟩ := hv.form
    subst e1
    clear hv
    have qc := cloneOf4.2 w a1 c1
    go_enter Tryz.func30, Tryz.ntmps30
    go_wp2_with (first | (go_at_call 55; refine (each_none4 _ _ _ _).mono ?_; rintro e w2 ⟨rfl, rfl⟩) | (go_at_call 66; refine qc.mono ?_; rintro e w1 ⟨p, c, rfl, hb1⟩))
    go_ret
    exact ⟨_, rfl, .inr ⟨rfl, _, _, rfl⟩, hb1, PlOf.nil _ _ _ _ _ _⟩
  · obtain ⟨b, o, c, rfl, -, -, -, hk⟩ := hv.resolve_right (fun h => h0 h.1)
    clear hv
    have qc := cloneOf4.1 w K n b o c l h0 hll hk
    have QE : Hid (∀ (w1 : World) (g c' : Nat), Cop w n 4 b o l g c' w1 → _) := fun w1 g c' hC => eachF4 n ih w1 (Old w) g 0 c' l (fun h => absurd h (Nat.not_lt.2 hC.new)) hC.lt hC.lay (Nat.le_trans hC.cap hC.mx) (fun j hj => by rw [Nat.zero_add]; exact hC.fz j) hw
    clear hk ih
    go_enter Tryz.func30, Tryz.ntmps30
    go_wp2_with (first | (go_at_call 55; refine (QE.out _ _ _ hC).mono ?_; rintro e w2 ⟨rfl, hE⟩) | (go_at_call 66; refine qc.mono ?_; rintro e w1 ⟨g, c', rfl, hC⟩))
    go_ret
    obtain ⟨r1, r2, r3, r4⟩ := hE.end hC
    exact ⟨_, rfl, r1, r2, PlOf.mk r4 r3⟩

theorem cloneOf5 : CloneOf 67 5 := clone_of rfl (clone_raw5) clone_nil5
set_option maxHeartbeats 1000000 in
theorem each_none5 (w : World) (g : FuncId) (p : Option Addr) (c : Nat) : Calls Tryz.prog 57 #[.slice p 0 c, .func (.func g) #[] #[]] w fun e w' => e = .returned (.tuple #[]) ∧ w' = w := by
  go_enter Tryz.func57, Tryz.ntmps57
  go_wp2
  go_loopw [7] (fun v wr => v = .int .i64 0 ∧ wr = w) (fun _ _ => 0)
  case atStart => exact ⟨rfl, rfl⟩
  case round =>
    obtain ⟨rfl, rfl⟩ := hrel
    go_wp2
    go_end0
    exact ⟨rfl, rfl⟩
set_option maxHeartbeats 1000000 in
theorem eachF5 (n : Nat) (ih : FreshOf 33 n 5) (w : World) (K : Nat → Prop) (b o c : Nat) (l : List Nd) (hK : ¬ K b) (hb : b < w.heap.size) (hL : Lay w K n 5 b o l) (hx : l.length ≤ maxLen) (hf : ∀ j, j < l.length * 5 → w.frozen? ⟨b, o + j, none⟩ = false) (hw : Nd.wtL l ≤ 1048576) :
    Calls Tryz.prog 57 #[.slice (some ⟨b, o, none⟩) l.length c, .func (.func 33) #[] #[]] w fun e w' => e = .returned (.tuple #[]) ∧ EInv w K n 5 b o l l.length w' := by
  unfold maxLen at hx
  have h0 := EInv.start hL
  clear hL
  go_enter Tryz.func57, Tryz.ntmps57
  go_wp2
  go_loopw [7] (fun v wr => ∃ k : Nat, v = .int .i64 k ∧ k ≤ l.length ∧ EInv w K n 5 b o l k wr) (fun v _ => l.length - (intOf v).toNat)
  case atStart => exact ⟨0, rfl, Nat.zero_le _, h0⟩
  case round =>
    obtain ⟨k, rfl, hkl, hE⟩ := hrel
    by_cases hlt : k < l.length
    · obtain ⟨x, hxk⟩ : ∃ x, l[k]? = some x := ⟨_, List.getElem?_eq_getElem hlt⟩
      obtain ⟨vs, hl1, hc1, ha1⟩ := hE.todo k x (Nat.le_refl _) hxk
      have hq := ih wr K b (o + k * 5) vs x hK hc1 ha1 (fun j hj => hE.z _ (by
        have hj' : j < 5 := hj
        rw [Nat.add_assoc]; exact hf _ (by omega))) (Nat.le_trans (Nd.wt_mem hxk) hw)
      have HS := fun (W' : World) (vs' : List Value) a1 a2 a3 a4 => EInv.step (W' := W') (vs' := vs') hE hK hb hxk hl1 hc1 a1 a2 a3 a4
      clear hE hf hw hxk ha1
      go_wp2_with (go_at_call 33; refine hq.mono ?_; rintro e w2 ⟨rfl, vs', a1, a2, a3, a4⟩)
      go_roundw
      case rel => exact ⟨k + 1, by go_num, by omega, HS _ _ a1 a2 a3 a4⟩
      case measure => simp [intOf]; omega
    · obtain rfl : k = l.length := by omega
      go_wp2
      go_end0
      exact ⟨rfl, hE⟩
set_option maxHeartbeats 1000000 in
theorem freshL5 (n : Nat) (ih : FreshOf 33 n 5) : FreshLOf 32 33 n 5 := by
  intro w K v l hv hw
  have hll : l.length ≤ 1048576 := Nat.le_trans (Nd.len_le_wt l) hw
  by_cases h0 : l = []
  · subst h0
    obtain ⟨a1, c1, e1, -⟩ := hv.form
    subst e1
    clear hv
    have qc := cloneOf5.2 w a1 c1
    go_enter Tryz.func32, Tryz.ntmps32
    go_wp2_with (first | (go_at_call 57; refine (each_none5 _ _ _ _).mono ?_; rintro e w2 ⟨rfl, rfl⟩) | (go_at_call 67; refine qc.mono ?_; rintro e w1 ⟨p, c, rfl, hb1⟩))
    go_ret
    exact ⟨_, rfl, .inr ⟨rfl, _, _, rfl⟩, hb1, PlOf.nil _ _ _ _ _ _⟩
  · obtain ⟨b, o, c, rfl, -, -, -, hk⟩ := hv.resolve_right (fun h => h0 h.1)
    clear hv
    have qc := cloneOf5.1 w K n b o c l h0 hll hk
    have QE : Hid (∀ (w1 : World) (g c' : Nat), Cop w n 5 b o l g c' w1 → _) := fun w1 g c' hC => eachF5 n ih w1 (Old w) g 0 c' l (fun h => absurd h (Nat.not_lt.2 hC.new)) hC.lt hC.lay (Nat.le_trans hC.cap hC.mx) (fun j hj => by rw [Nat.zero_add]; exact hC.fz j) hw
    clear hk ih
    go_enter Tryz.func32, Tryz.ntmps32
    go_wp2_with (first | (go_at_call 57; refine (QE.out _ _ _ hC).mono ?_; rintro e w2 ⟨rfl, hE⟩) | (go_at_call 67; refine qc.mono ?_; rintro e w1 ⟨g, c', rfl, hC⟩))
    go_ret
    obtain ⟨r1, r2, r3, r4⟩ := hE.end hC
    exact ⟨_, rfl, r1, r2, PlOf.mk r4 r3⟩

theorem cloneOf6 : CloneOf 68 6 := clone_of rfl (clone_raw6) clone_nil6
set_option maxHeartbeats 1000000 in
theorem each_none6 (w : World) (g : FuncId) (p : Option Addr) (c : Nat) : Calls Tryz.prog 59 #[.slice p 0 c, .func (.func g) #[] #[]] w fun e w' => e = .returned (.tuple #[]) ∧ w' = w := by
  go_enter Tryz.func59, Tryz.ntmps59
  go_wp2
  go_loopw [7] (fun v wr => v = .int .i64 0 ∧ wr = w) (fun _ _ => 0)
  case atStart => exact ⟨rfl, rfl⟩
  case round =>
    obtain ⟨rfl, rfl⟩ := hrel
    go_wp2
    go_end0
    exact ⟨rfl, rfl⟩
set_option maxHeartbeats 1000000 in
theorem eachF6 (n : Nat) (ih : FreshOf 35 n 6) (w : World) (K : Nat → Prop) (b o c : Nat) (l : List Nd) (hK : ¬ K b) (hb : b < w.heap.size) (hL : Lay w K n 6 b o l) (hx : l.length ≤ maxLen) (hf : ∀ j, j < l.length * 5 → w.frozen? ⟨b, o + j, none⟩ = false) (hw : Nd.wtL l ≤ 1048576) :
    Calls Tryz.prog 59 #[.slice (some ⟨b, o, none⟩) l.length c, .func (.func 35) #[] #[]] w fun e w' => e = .returned (.tuple #[]) ∧ EInv w K n 6 b o l l.length w' := by
  unfold maxLen at hx
  have h0 := EInv.start hL
  clear hL
  go_enter Tryz.func59, Tryz.ntmps59
  go_wp2
  go_loopw [7] (fun v wr => ∃ k : Nat, v = .int .i64 k ∧ k ≤ l.length ∧ EInv w K n 6 b o l k wr) (fun v _ => l.length - (intOf v).toNat)
  case atStart => exact ⟨0, rfl, Nat.zero_le _, h0⟩
  case round =>
    obtain ⟨k, rfl, hkl, hE⟩ := hrel
    by_cases hlt : k < l.length
    · obtain ⟨x, hxk⟩ : ∃ x, l[k]? = some x := ⟨_, List.getElem?_eq_getElem hlt⟩
      obtain ⟨vs, hl1, hc1, ha1⟩ := hE.todo k x (Nat.le_refl _) hxk
      have hq := ih wr K b (o + k * 5) vs x hK hc1 ha1 (fun j hj => hE.z _ (by
        have hj' : j < 5 := hj
        rw [Nat.add_assoc]; exact hf _ (by omega))) (Nat.le_trans (Nd.wt_mem hxk) hw)
      have HS := fun (W' : World) (vs' : List Value) a1 a2 a3 a4 => EInv.step (W' := W') (vs' := vs') hE hK hb hxk hl1 hc1 a1 a2 a3 a4
      clear hE hf hw hxk ha1
      go_wp2_with (go_at_call 35; refine hq.mono ?_; rintro e w2 ⟨rfl, vs', a1, a2, a3, a4⟩)
      go_roundw
      case rel => exact ⟨k + 1, by go_num, by omega, HS _ _ a1 a2 a3 a4⟩
      case measure => simp [intOf]; omega
    · obtain rfl : k = l.length := by omega
      go_wp2
      go_end0
      exact ⟨rfl, hE⟩
set_option maxHeartbeats 1000000 in
theorem freshL6 (n : Nat) (ih : FreshOf 35 n 6) : FreshLOf 34 35 n 6 := by
  intro w K v l hv hw
  have hll : l.length ≤ 1048576 := Nat.le_trans (Nd.len_le_wt l) hw
  by_cases h0 : l = []
  · subst h0
    obtain ⟨a1, c1, e1, -⟩ := hv.form
    subst e1
    clear hv
    have qc := cloneOf6.2 w a1 c1
    go_enter Tryz.func34, Tryz.ntmps34
    go_wp2_with (first | (go_at_call 59; refine (each_none6 _ _ _ _).mono ?_; rintro e w2 ⟨rfl, rfl⟩) | (go_at_call 68; refine qc.mono ?_; rintro e w1 ⟨p, c, rfl, hb1⟩))
    go_ret
    exact ⟨_, rfl, .inr ⟨rfl, _, _, rfl⟩, hb1, PlOf.nil _ _ _ _ _ _⟩
  · obtain ⟨b, o, c, rfl, -, -, -, hk⟩ := hv.resolve_right (fun h => h0 h.1)
    clear hv
    have qc := cloneOf6.1 w K n b o c l h0 hll hk
    have QE : Hid (∀ (w1 : World) (g c' : Nat), Cop w n 6 b o l g c' w1 → _) := fun w1 g c' hC => eachF6 n ih w1 (Old w) g 0 c' l (fun h => absurd h (Nat.not_lt.2 hC.new)) hC.lt hC.lay (Nat.le_trans hC.cap hC.mx) (fun j hj => by rw [Nat.zero_add]; exact hC.fz j) hw
    clear hk ih
    go_enter Tryz.func34, Tryz.ntmps34
    go_wp2_with (first | (go_at_call 59; refine (QE.out _ _ _ hC).mono ?_; rintro e w2 ⟨rfl, hE⟩) | (go_at_call 68; refine qc.mono ?_; rintro e w1 ⟨g, c', rfl, hC⟩))
    go_ret
    obtain ⟨r1, r2, r3, r4⟩ := hE.end hC
    exact ⟨_, rfl, r1, r2, PlOf.mk r4 r3⟩

theorem cloneOf7 : CloneOf 96 7 := clone_of rfl (clone_raw7) clone_nil7
set_option maxHeartbeats 1000000 in
theorem each_none7 (w : World) (g : FuncId) (p : Option Addr) (c : Nat) : Calls Tryz.prog 90 #[.slice p 0 c, .func (.func g) #[] #[]] w fun e w' => e = .returned (.tuple #[]) ∧ w' = w := by
  go_enter Tryz.func90, Tryz.ntmps90
  go_wp2
  go_loopw [7] (fun v wr => v = .int .i64 0 ∧ wr = w) (fun _ _ => 0)
  case atStart => exact ⟨rfl, rfl⟩
  case round =>
    obtain ⟨rfl, rfl⟩ := hrel
    go_wp2
    go_end0
    exact ⟨rfl, rfl⟩
set_option maxHeartbeats 1000000 in
theorem eachF7 (n : Nat) (ih : FreshOf 70 n 7) (w : World) (K : Nat → Prop) (b o c : Nat) (l : List Nd) (hK : ¬ K b) (hb : b < w.heap.size) (hL : Lay w K n 7 b o l) (hx : l.length ≤ maxLen) (hf : ∀ j, j < l.length * 6 → w.frozen? ⟨b, o + j, none⟩ = false) (hw : Nd.wtL l ≤ 1048576) :
    Calls Tryz.prog 90 #[.slice (some ⟨b, o, none⟩) l.length c, .func (.func 70) #[] #[]] w fun e w' => e = .returned (.tuple #[]) ∧ EInv w K n 7 b o l l.length w' := by
  unfold maxLen at hx
  have h0 := EInv.start hL
  clear hL
  go_enter Tryz.func90, Tryz.ntmps90
  go_wp2
  go_loopw [7] (fun v wr => ∃ k : Nat, v = .int .i64 k ∧ k ≤ l.length ∧ EInv w K n 7 b o l k wr) (fun v _ => l.length - (intOf v).toNat)
  case atStart => exact ⟨0, rfl, Nat.zero_le _, h0⟩
  case round =>
    obtain ⟨k, rfl, hkl, hE⟩ := hrel
    by_cases hlt : k < l.length
    · obtain ⟨x, hxk⟩ : ∃ x, l[k]? = some x := ⟨_, List.getElem?_eq_getElem hlt⟩
      obtain ⟨vs, hl1, hc1, ha1⟩ := hE.todo k x (Nat.le_refl _) hxk
      have hq := ih wr K b (o + k * 6) vs x hK hc1 ha1 (fun j hj => hE.z _ (by
        have hj' : j < 6 := hj
        rw [Nat.add_assoc]; exact hf _ (by omega))) (Nat.le_trans (Nd.wt_mem hxk) hw)
      have HS := fun (W' : World) (vs' : List Value) a1 a2 a3 a4 => EInv.step (W' := W') (vs' := vs') hE hK hb hxk hl1 hc1 a1 a2 a3 a4
      clear hE hf hw hxk ha1
      go_wp2_with (go_at_call 70; refine hq.mono ?_; rintro e w2 ⟨rfl, vs', a1, a2, a3, a4⟩)
      go_roundw
      case rel => exact ⟨k + 1, by go_num, by omega, HS _ _ a1 a2 a3 a4⟩
      case measure => simp [intOf]; omega
    · obtain rfl : k = l.length := by omega
      go_wp2
      go_end0
      exact ⟨rfl, hE⟩
set_option maxHeartbeats 1000000 in
theorem freshL7 (n : Nat) (ih : FreshOf 70 n 7) : FreshLOf 69 70 n 7 := by
  intro w K v l hv hw
  have hll : l.length ≤ 1048576 := Nat.le_trans (Nd.len_le_wt l) hw
  by_cases h0 : l = []
  · subst h0
    obtain ⟨a1, c1, e1, -⟩ := hv.form
    subst e1
    clear hv
    have qc := cloneOf7.2 w a1 c1
    go_enter Tryz.func69, Tryz.ntmps69
    go_wp2_with (first | (go_at_call 90; refine (each_none7 _ _ _ _).mono ?_; rintro e w2 ⟨rfl, rfl⟩) | (go_at_call 96; refine qc.mono ?_; rintro e w1 ⟨p, c, rfl, hb1⟩))
    go_ret
    exact ⟨_, rfl, .inr ⟨rfl, _, _, rfl⟩, hb1, PlOf.nil _ _ _ _ _ _⟩
  · obtain ⟨b, o, c, rfl, -, -, -, hk⟩ := hv.resolve_right (fun h => h0 h.1)
    clear hv
    have qc := cloneOf7.1 w K n b o c l h0 hll hk
    have QE : Hid (∀ (w1 : World) (g c' : Nat), Cop w n 7 b o l g c' w1 → _) := fun w1 g c' hC => eachF7 n ih w1 (Old w) g 0 c' l (fun h => absurd h (Nat.not_lt.2 hC.new)) hC.lt hC.lay (Nat.le_trans hC.cap hC.mx) (fun j hj => by rw [Nat.zero_add]; exact hC.fz j) hw
    clear hk ih
    go_enter Tryz.func69, Tryz.ntmps69
    go_wp2_with (first | (go_at_call 90; refine (QE.out _ _ _ hC).mono ?_; rintro e w2 ⟨rfl, hE⟩) | (go_at_call 96; refine qc.mono ?_; rintro e w1 ⟨g, c', rfl, hC⟩))
    go_ret
    obtain ⟨r1, r2, r3, r4⟩ := hE.end hC
    exact ⟨_, rfl, r1, r2, PlOf.mk r4 r3⟩

end Go.Proofs.YtgiegjghldhppabGreat
