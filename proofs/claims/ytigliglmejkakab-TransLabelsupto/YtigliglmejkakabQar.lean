/- The document's own: level, with. The document's own: Texts, same, sameAll, SameType. The law's own: stamp, list, same. The law's list. The gatherer's methods on alive's structure; gathered. -/
import Derived.Deep.RegionHeld
import Derived.Test.YtigliglmejkakabQaq
import Derived.Test.YtigliglmejkakabQam
import Derived.Test.YtigliglmejkakabQap
namespace Go.Proofs.Ytigliglmejkakab.Tgt
open Go.RowKit
set_option linter.unusedVariables false
set_option linter.unusedSimpArgs false

/-- What is bound, from the outermost on, as surroundings. -/
def envOf (B : List Int) : List (Int × Int) := B.foldl (fun e x => (x, (e.length : Int)) :: e) []
theorem envOf_snoc (B : List Int) (x : Int) : envOf (B ++ [x]) = (x, ((envOf B).length : Int)) :: envOf B := by unfold envOf; rw [List.foldl_append]; rfl
theorem envOf_len (B : List Int) : (envOf B).length = B.length := by
  have key : ∀ (B : List Int) (e : List (Int × Int)), (B.foldl (fun e x => (x, (e.length : Int)) :: e) e).length = e.length + B.length := by
    intro B
    induction B with
    | nil => intro e; rfl
    | cons x r ih => intro e; rw [List.foldl_cons, ih, List.length_cons, List.length_cons]; omega
  have := key B []
  simpa [envOf] using this
theorem envOf_pos : ∀ (n : Nat) (B : List Int) (x j : Int), B.length = n → lk (envOf B) x = some j → 0 ≤ j
  | 0, B, x, j, hl, h => by rw [List.eq_nil_of_length_eq_zero hl] at h; cases h
  | n + 1, B, x, j, hl, h => by
    have hne : B ≠ [] := fun e => by rw [e] at hl; cases hl
    rw [← List.dropLast_concat_getLast hne, envOf_snoc, lk_cons] at h
    split at h
    · injection h with h; rw [← h]; omega
    · exact envOf_pos n B.dropLast x j (by rw [List.length_dropLast]; omega) h
abbrev IT : TypeId := 3
/-- A list of numbers of its own. -/
def Ow (w : World) (v : Value) (l : List Int) : Prop := ∃ g, w.ownsRow g IT 1 v l.length (l.map (.int .i64))
theorem Ow.below {w w' : World} {v : Value} {l : List Int} (h : Ow w v l) (hb : Below w.heap.size w w') : Ow w' v l := by
  obtain ⟨g, h⟩ := h
  exact ⟨g, own_block h (fun b q => hb.block b (h.lt b q).2)⟩
theorem Ow.nil (w : World) : Ow w (.slice none 0 0) [] := ⟨0, World.ownsRow_nil _ _ _ _⟩
theorem Ow.form {w : World} {v : Value} {l : List Int} (h : Ow w v l) : ∃ a c, v = .slice a l.length c ∧ l.length ≤ maxLen ∧ (l.length ≤ c) ∧ ∀ (j : Nat) x, l[j]? = some x → ∃ g, a = some ⟨g, 0, none⟩ ∧ w.cell? ⟨g, j, none⟩ = some (.int .i64 x) := by
  obtain ⟨g, h⟩ := h
  rcases h.2 with ⟨rfl, h0⟩ | ⟨b, cap, cur, rfl, hb, hc, hn, hm, hs, ht⟩
  · rw [h0]
    refine ⟨_, _, rfl, Nat.zero_le _, Nat.le_refl _, fun j x hx => ?_⟩
    rw [List.eq_nil_of_length_eq_zero h0] at hx
    simp at hx
  · refine ⟨_, _, rfl, Nat.le_trans hn hm, hn, fun j x hx => ⟨b, rfl, ?_⟩⟩
    exact h.cells (g := b) rfl j _ (by rw [List.getElem?_map, hx]; rfl) |> fun q => by rw [addr_add', Nat.zero_add] at q; exact q
theorem info_int : (Try.prog.info? 3).map (fun i => (i.zero, i.size, i.bytes)) = some (some (.int .i64 0), 1, 8) := by kernel_rfl

/-- What a slice that is appended holds. -/
def Src (w : World) (k : Nat) (v : Value) (m : Nat) (news : List Value) : Prop := (v = .slice none 0 0 ∧ m = 0 ∧ news = []) ∨ ∃ ad c, v = .slice (some ad) m c ∧ news.length = m * k ∧ (∀ (j : Nat) u, news[j]? = some u → w.cell? (ad.add j) = some u) ∧ ∀ u ∈ news, u.oneCell' = true
theorem Ow.src {w : World} {v : Value} {l : List Int} (h : Ow w v l) : Src w 1 v l.length (l.map (.int .i64)) := by
  obtain ⟨g, h⟩ := h
  rcases h.2 with ⟨rfl, h0⟩ | ⟨b, cap, cur, rfl, hb, hc, hn, hm, hs, ht⟩
  · exact .inl ⟨rfl, h0, by rw [List.eq_nil_of_length_eq_zero h0]; rfl⟩
  · refine .inr ⟨⟨b, 0, none⟩, cap, rfl, by simp, h.cells (g := b) rfl, fun u hu => ?_⟩
    obtain ⟨x, -, rfl⟩ := List.mem_map.1 hu
    rfl
theorem wp_copy {P : Program} {ops : Array Oper} {rest : List Oper} {o : Oper} {a : Act} {w : World} {Q : Exit → Act → World → Prop} (hgd : o.guard = none) (s x : Operand) (t : TypeId)
    (ho : o.op = .call { callee := .builtin .append, args := #[s, x], argTypes := #[t, t] })
    (g : Nat) (e : TypeId) (i : TypeInfo) (z : Value) (size bytes : Nat) (ht : P.underlying t = some (.slice e)) (hi : P.info? e = some i) (hz : i.zero = some z)
    (hsize : i.size = size) (hby : i.bytes = bytes) (hzs : z.cells.size = size) (hsz : 0 < size) (hs : a.eval s = .slice (some ⟨g, 0, none⟩) 0 0) (hown : w.ownsRow g e size (.slice (some ⟨g, 0, none⟩) 0 0) 0 [])
    (v : Value) (m : Nat) (news : List Value) (hx : a.eval x = v) (hsrc : Src w size v m news) (hm : m ≤ 2199023255552) (hb : bytes ≤ 64) (hg : g ≤ w.heap.size)
    (h : ∀ v' w', w'.ownsRow g e size v' m news → Below g w w' → wpList P ops Q rest (a.put o.dst v') w') : wpList P ops Q (o :: rest) a w := by
  rcases hsrc with ⟨rfl, rfl, rfl⟩ | ⟨ad, c, rfl, hl, hnews, h1⟩
  · exact wpList_append_own_none hgd s x t ho g e i size ht hi _ 0 [] hs hown hx (h _ _ hown (Below.refl _ _))
  · refine wpList_append_own w hgd s x t ho g e i z size bytes ht hi hz hsize hby hzs hsz _ 0 [] hs hown ad m c news hx hl hnews h1 (by unfold maxLen; omega) (by rw [Nat.zero_add]; exact Nat.le_trans (Nat.mul_le_mul hm hb) (by decide)) hg ?_
    intro v' w' h2 h3 _
    rw [Nat.zero_add, List.nil_append] at h2
    exact h v' w' h2 ((Below.refl g w).grown h3 hg (fun b hb => (hown.lt b hb).1))

theorem Tt.binds_k (t : Tt) : t.binds = bindsK t.k := rfl
end Go.Proofs.Ytigliglmejkakab.Tgt

namespace Go.Proofs.Ytigliglmejkakab.Tgt
open Go.RowKit
set_option linter.unusedVariables false
set_option linter.unusedSimpArgs false

theorem Tt.cntL_get {l : List Tt} {k : Nat} {x : Tt} (hx : l[k]? = some x) : x.cnt ≤ Tt.cntL l := by
  have : ∀ (l : List Tt) (x : Tt), x ∈ l → x.cnt ≤ Tt.cntL l := by
    intro l
    induction l with
    | nil => intro x h; cases h
    | cons y r ih =>
      intro x h
      rw [Tt.cntL]
      rcases List.mem_cons.1 h with rfl | h
      · omega
      · have := ih x h; omega
  exact this l x (List.mem_of_getElem? hx)

theorem one_lv (X Y : List Int) (x y : Int) : Tt.one (envOf X) (envOf Y) x y = ((lk (envOf X) x).getD (-1) == (lk (envOf Y) y).getD (-1) && (decide (0 ≤ (lk (envOf X) x).getD (-1)) || x == y)) := by
  unfold Tt.one
  cases h1 : lk (envOf X) x with
  | none =>
    cases h2 : lk (envOf Y) y with
    | none => simp
    | some b =>
      have := envOf_pos _ Y y b rfl h2
      simp
      omega
  | some a =>
    have ha := envOf_pos _ X x a rfl h1
    cases h2 : lk (envOf Y) y with
    | none =>
      simp
      intro h
      omega
    | some b => simp [ha]
theorem sB {W1 W : World} {b1 b2 : Nat} {c1 c2 : List Value} (h : (∀ j : Nat, W.cell? ⟨b1, j, none⟩ = c1[j]?) ∧ (∀ j : Nat, W.cell? ⟨b2, j, none⟩ = c2[j]?) ∧ Below W1.heap.size W1 W) : Below W1.heap.size W1 W := h.2.2
theorem Sl.any' {w : World} {K : Nat → Prop} {v : Value} {l : List ByteArray} (h : Sl w K v l) : Sl w Any v l := h.move (Keeps.refl _ _) fun _ _ => trivial
theorem env_no {t : Tt} (h : t.binds = false) (e : List (Int × Int)) : t.env e = e := by unfold Tt.env; rw [h]; rfl
theorem env_yes {t : Tt} (h : t.binds = true) (X : List Int) : t.env (envOf X) = envOf (X ++ [t.n]) := by unfold Tt.env; rw [h, envOf_snoc]; rfl

end Go.Proofs.Ytigliglmejkakab.Tgt

namespace Go.Proofs.Ytigliglmejkakab
open Go.RowKit
set_option linter.unusedVariables false
set_option linter.unusedSimpArgs false

theorem eqLs_refl : ∀ l : List ByteArray, Tgt.Tt.eqLs l l = true
  | [] => by simp [Tgt.Tt.eqLs]
  | x :: r => by simp [Tgt.Tt.eqLs, Tgt.Tt.eqS, eqLs_refl r]
theorem one_refl (e : List (Int × Int)) (x : Int) : Tgt.Tt.one e e x x = true := by
  unfold Tgt.Tt.one
  cases Tgt.lk e x with
  | none => simp
  | some a => simp
mutual
theorem tsame_refl : ∀ (t : Tgt.Tt) (e : List (Int × Int)), Tgt.Tt.same t t e e = true
  | .mk k n ls ks, e => by
    rw [Tgt.Tt.same_mk]
    unfold Tgt.Tt.alike Tgt.Tt.num
    simp only [Tgt.Tt.ls, eqLs_refl, beq_self_eq_true, Bool.true_and, one_refl]
    have := tsameL_refl ks ((Tgt.Tt.mk k n ls ks).env e)
    simp only [Tgt.Tt.ks]
    rw [this]
    split
    · rfl
    · split <;> rfl
theorem tsameL_refl : ∀ (l : List Tgt.Tt) (e : List (Int × Int)), Tgt.Tt.sameL l l e e = true
  | [], e => by rw [Tgt.Tt.sameL]
  | x :: r, e => by
    rw [Tgt.Tt.sameL]
    show (Tgt.Tt.same x x e e && Tgt.Tt.sameL r r e e) = true
    rw [tsame_refl x e, tsameL_refl r e]
    rfl
end

set_option maxRecDepth 100000 in
theorem stamp14 (w : World) (n : Int) : Calls Try.prog 10 #[.int .i64 n] w fun e w' => e = .returned (.agg #[.int .i64 6, .int .i64 n, .slice none 0 0]) ∧ Below w.heap.size w w' := by
  go_enter Try.func10, Try.ntmps10
  go_wp2
  refine bodyPost_ret (v := .agg #[.int .i64 6, .int .i64 n, .slice none 0 0]) (by rw [results_cell1 (fn := Try.f10) (p := 2) (ty := 39) (by kernel_rfl)]; simp [go_sem]) rfl ?_
  exact ⟨rfl, bl_alloc (Below.refl _ _) _⟩

end Go.Proofs.Ytigliglmejkakab

namespace Go.Proofs.Ytigliglmejkakab
open Go.RowKit
set_option linter.unusedVariables false
set_option linter.unusedSimpArgs false

def listT : Tp := .mk 5 0 [.mk 1 0 [], .mk 6 5 []]
def listC : List Ct := [⟨(ByteArray.mk #[78, 105, 108]), []⟩, ⟨(ByteArray.mk #[67, 111, 110, 115]), [listT]⟩]
theorem tat0 {w : World} {K : Nat → Prop} (k n : Int) (h1 : R64 k) (h2 : R64 n) : TAt w K 1 [.int .i64 k, .int .i64 n, .slice none 0 0] (.mk k n []) := ⟨_, rfl, h1, h2, .inr ⟨rfl, none, 0, rfl⟩⟩
theorem list_tat {W : World} {p q : Nat} (hA : Arr W p 39 [.int .i64 1, .int .i64 0, .slice none 0 0, .int .i64 6, .int .i64 5, .slice none 0 0]) : TAt W Any 2 [.int .i64 5, .int .i64 0, .slice (some ⟨p, 0, none⟩) 2 2] listT := by
  refine ⟨_, rfl, ⟨by show (-9223372036854775808 : Int) ≤ 5; omega, by show (5 : Int) ≤ 9223372036854775807; omega⟩, ⟨by show (-9223372036854775808 : Int) ≤ 0; omega, by show (0 : Int) ≤ 9223372036854775807; omega⟩, .inl ⟨p, 0, 2, rfl, trivial, Nat.le_refl _, by unfold maxLen; show (2 : Nat) ≤ _; omega, fun i x hx => ?_⟩⟩
  match i, hx with
  | 0, hx =>
    simp [listT, Tp.ks] at hx
    subst hx
    exact ⟨_, fun j u hu => by
      rw [hA.cell]
      match j, hu with
      | 0, hu => exact hu
      | 1, hu => exact hu
      | 2, hu => exact hu
      | j + 3, hu => simp at hu, tat0 1 0 ⟨by omega, by omega⟩ ⟨by omega, by omega⟩⟩
  | 1, hx =>
    simp [listT, Tp.ks] at hx
    subst hx
    exact ⟨_, fun j u hu => by
      rw [hA.cell]
      match j, hu with
      | 0, hu => exact hu
      | 1, hu => exact hu
      | 2, hu => exact hu
      | j + 3, hu => simp at hu, tat0 6 5 ⟨by omega, by omega⟩ ⟨by omega, by omega⟩⟩
  | i + 2, hx => simp [listT, Tp.ks] at hx
theorem list_ctl {W : World} {p q r : Nat} (hA : Arr W p 39 [.int .i64 1, .int .i64 0, .slice none 0 0, .int .i64 6, .int .i64 5, .slice none 0 0]) (hC : Arr W q 39 [.int .i64 5, .int .i64 0, .slice (some ⟨p, 0, none⟩) 2 2]) (hD : Arr W r 64 [.string (ByteArray.mk #[78, 105, 108]), .slice none 0 0, .string (ByteArray.mk #[67, 111, 110, 115]), .slice (some ⟨q, 0, none⟩) 1 1]) : CtL W Any 2 (.slice (some ⟨r, 0, none⟩) 2 2) listC := by
  refine .inl ⟨r, 0, 2, rfl, trivial, Nat.le_refl _, by unfold maxLen; show (2 : Nat) ≤ _; omega, fun i c hc => ?_⟩
  match i, hc with
  | 0, hc =>
    simp [listC] at hc
    subst hc
    exact ⟨[.string (ByteArray.mk #[78, 105, 108]), .slice none 0 0], fun j u hu => by
      rw [hD.cell]
      match j, hu with
      | 0, hu => exact hu
      | 1, hu => exact hu
      | j + 2, hu => simp at hu, ⟨_, rfl, .inr ⟨rfl, none, 0, rfl⟩⟩⟩
  | 1, hc =>
    simp [listC] at hc
    subst hc
    exact ⟨[.string (ByteArray.mk #[67, 111, 110, 115]), .slice (some ⟨q, 0, none⟩) 1 1], fun j u hu => by
      rw [hD.cell]
      match j, hu with
      | 0, hu => exact hu
      | 1, hu => exact hu
      | j + 2, hu => simp at hu, ⟨_, rfl, .inl ⟨q, 0, 1, rfl, trivial, Nat.le_refl _, by unfold maxLen; show (1 : Nat) ≤ _; omega, fun i x hx => by
        match i, hx with
        | 0, hx =>
          simp at hx
          subst hx
          exact ⟨_, fun j u hu => by rw [hC.cell]; simpa using hu, list_tat (q := q) hA⟩
        | i + 1, hx => simp at hx⟩⟩⟩
  | i + 2, hc => simp [listC] at hc

set_option maxHeartbeats 1000000 in
set_option maxRecDepth 100000 in
theorem list14 (w : World) : Calls Try.prog 9 #[] w fun e w' => ∃ r, e = .returned (.slice (some ⟨r, 0, none⟩) 2 2) ∧ CtL w' Any 2 (.slice (some ⟨r, 0, none⟩) 2 2) listC ∧ Below w.heap.size w w' := by
  have HQ : Hid (Calls Try.prog 10 #[.int .i64 5] w fun e w' => e = .returned (.agg #[.int .i64 6, .int .i64 5, .slice none 0 0]) ∧ Below w.heap.size w w') := stamp14 w 5
  go_enter Try.func9, Try.ntmps9
  go_wp2_with (go_at_call 10; refine HQ.out.mono ?_; rintro e w3 ⟨rfl, b3⟩; have HB3 := hid b3; clear b3)
  go_ret
  have hA : Arr ((((w3.alloc (.cells #[.int .i64 1, .int .i64 0, .slice none 0 0, .int .i64 6, .int .i64 5, .slice none 0 0] 39)).alloc (.cells #[.int .i64 5, .int .i64 0, .slice (some ⟨w3.heap.size, 0, none⟩) 2 2] 39)).alloc (.cells #[.int .i64 5, .int .i64 0, .slice (some ⟨w3.heap.size, 0, none⟩) 2 2] 39)).alloc (.cells #[.string (ByteArray.mk #[78, 105, 108]), .slice none 0 0, .string (ByteArray.mk #[67, 111, 110, 115]), .slice (some ⟨w3.heap.size + 2, 0, none⟩) 1 1] 64)) w3.heap.size 39 [.int .i64 1, .int .i64 0, .slice none 0 0, .int .i64 6, .int .i64 5, .slice none 0 0] := Arr.stays (w := w3.alloc (.cells #[.int .i64 1, .int .i64 0, .slice none 0 0, .int .i64 6, .int .i64 5, .slice none 0 0] 39)) ⟨heap_alloc_at _ _⟩ (bl_alloc (bl_alloc (bl_alloc (Below.refl _ _) _) _) _)
  have hC : Arr ((((w3.alloc (.cells #[.int .i64 1, .int .i64 0, .slice none 0 0, .int .i64 6, .int .i64 5, .slice none 0 0] 39)).alloc (.cells #[.int .i64 5, .int .i64 0, .slice (some ⟨w3.heap.size, 0, none⟩) 2 2] 39)).alloc (.cells #[.int .i64 5, .int .i64 0, .slice (some ⟨w3.heap.size, 0, none⟩) 2 2] 39)).alloc (.cells #[.string (ByteArray.mk #[78, 105, 108]), .slice none 0 0, .string (ByteArray.mk #[67, 111, 110, 115]), .slice (some ⟨w3.heap.size + 2, 0, none⟩) 1 1] 64)) (w3.heap.size + 2) 39 [.int .i64 5, .int .i64 0, .slice (some ⟨w3.heap.size, 0, none⟩) 2 2] := by
    have := heap_alloc_at ((w3.alloc (.cells #[.int .i64 1, .int .i64 0, .slice none 0 0, .int .i64 6, .int .i64 5, .slice none 0 0] 39)).alloc (.cells #[.int .i64 5, .int .i64 0, .slice (some ⟨w3.heap.size, 0, none⟩) 2 2] 39)) (.cells #[.int .i64 5, .int .i64 0, .slice (some ⟨w3.heap.size, 0, none⟩) 2 2] 39)
    rw [size_alloc, size_alloc] at this
    exact Arr.stays (w := ((w3.alloc (.cells #[.int .i64 1, .int .i64 0, .slice none 0 0, .int .i64 6, .int .i64 5, .slice none 0 0] 39)).alloc (.cells #[.int .i64 5, .int .i64 0, .slice (some ⟨w3.heap.size, 0, none⟩) 2 2] 39)).alloc (.cells #[.int .i64 5, .int .i64 0, .slice (some ⟨w3.heap.size, 0, none⟩) 2 2] 39)) ⟨this⟩ (bl_alloc (Below.refl _ _) _)
  have hD : Arr ((((w3.alloc (.cells #[.int .i64 1, .int .i64 0, .slice none 0 0, .int .i64 6, .int .i64 5, .slice none 0 0] 39)).alloc (.cells #[.int .i64 5, .int .i64 0, .slice (some ⟨w3.heap.size, 0, none⟩) 2 2] 39)).alloc (.cells #[.int .i64 5, .int .i64 0, .slice (some ⟨w3.heap.size, 0, none⟩) 2 2] 39)).alloc (.cells #[.string (ByteArray.mk #[78, 105, 108]), .slice none 0 0, .string (ByteArray.mk #[67, 111, 110, 115]), .slice (some ⟨w3.heap.size + 2, 0, none⟩) 1 1] 64)) (w3.heap.size + 3) 64 [.string (ByteArray.mk #[78, 105, 108]), .slice none 0 0, .string (ByteArray.mk #[67, 111, 110, 115]), .slice (some ⟨w3.heap.size + 2, 0, none⟩) 1 1] := by
    have := heap_alloc_at (((w3.alloc (.cells #[.int .i64 1, .int .i64 0, .slice none 0 0, .int .i64 6, .int .i64 5, .slice none 0 0] 39)).alloc (.cells #[.int .i64 5, .int .i64 0, .slice (some ⟨w3.heap.size, 0, none⟩) 2 2] 39)).alloc (.cells #[.int .i64 5, .int .i64 0, .slice (some ⟨w3.heap.size, 0, none⟩) 2 2] 39)) (.cells #[.string (ByteArray.mk #[78, 105, 108]), .slice none 0 0, .string (ByteArray.mk #[67, 111, 110, 115]), .slice (some ⟨w3.heap.size + 2, 0, none⟩) 1 1] 64)
    rw [size_alloc, size_alloc, size_alloc] at this
    exact ⟨this⟩
  exact ⟨w3.heap.size + 3, rfl, list_ctl hA hC hD, bl_alloc (bl_alloc (bl_alloc (bl_alloc HB3.out _) _) _) _⟩
end Go.Proofs.Ytigliglmejkakab

namespace Go.Proofs.Ytigliglmejkakab
open Go.RowKit
set_option linter.unusedVariables false
set_option linter.unusedSimpArgs false

set_option maxRecDepth 100000 in
theorem vals14 (w : World) (G P tb : Nat) (v : Value) (hg : Arr w G 69 [.pointer (some ⟨P, 0, none⟩), v]) (hP : Arr w P 28 [.slice (some ⟨tb, 0, none⟩) 1 1, .slice none 0 0, .slice none 0 0, .slice none 0 0, .slice none 0 0]) : Calls Try.prog 26 #[.pointer (some ⟨G, 0, none⟩)] w fun e w' => e = .returned (.tuple #[]) ∧ w' = w := by
  have g0 := hg.cell 0
  have p0 := hP.cell 1
  simp only [List.getElem?_cons_succ, List.getElem?_cons_zero] at g0 p0
  clear hg hP
  go_enter Try.func26, Try.ntmps26
  go_wp2
  refine wp_loop_rounds 1 ?_
  rw [rounds_succ]
  go_wp2
  first | refine bodyPost_end (results_none rfl _ _ _) rfl ?_ | refine bodyPost_ret (results_none rfl _ _ _) rfl ?_
  exact ⟨rfl, rfl⟩
set_option maxRecDepth 100000 in
theorem subs14 (w : World) (G P tb : Nat) (v : Value) (hg : Arr w G 69 [.pointer (some ⟨P, 0, none⟩), v]) (hP : Arr w P 28 [.slice (some ⟨tb, 0, none⟩) 1 1, .slice none 0 0, .slice none 0 0, .slice none 0 0, .slice none 0 0]) : Calls Try.prog 27 #[.pointer (some ⟨G, 0, none⟩)] w fun e w' => e = .returned (.tuple #[]) ∧ w' = w := by
  have g0 := hg.cell 0
  have p0 := hP.cell 2
  simp only [List.getElem?_cons_succ, List.getElem?_cons_zero] at g0 p0
  clear hg hP
  go_enter Try.func27, Try.ntmps27
  go_wp2
  refine wp_loop_rounds 1 ?_
  rw [rounds_succ]
  go_wp2
  first | refine bodyPost_end (results_none rfl _ _ _) rfl ?_ | refine bodyPost_ret (results_none rfl _ _ _) rfl ?_
  exact ⟨rfl, rfl⟩
set_option maxRecDepth 100000 in
theorem funs14 (w : World) (G P tb : Nat) (v : Value) (hg : Arr w G 69 [.pointer (some ⟨P, 0, none⟩), v]) (hP : Arr w P 28 [.slice (some ⟨tb, 0, none⟩) 1 1, .slice none 0 0, .slice none 0 0, .slice none 0 0, .slice none 0 0]) : Calls Try.prog 28 #[.pointer (some ⟨G, 0, none⟩)] w fun e w' => e = .returned (.tuple #[]) ∧ w' = w := by
  have g0 := hg.cell 0
  have p0 := hP.cell 3
  simp only [List.getElem?_cons_succ, List.getElem?_cons_zero] at g0 p0
  clear hg hP
  go_enter Try.func28, Try.ntmps28
  go_wp2
  refine wp_loop_rounds 1 ?_
  rw [rounds_succ]
  go_wp2
  first | refine bodyPost_end (results_none rfl _ _ _) rfl ?_ | refine bodyPost_ret (results_none rfl _ _ _) rfl ?_
  exact ⟨rfl, rfl⟩
theorem out14 (w : World) : Calls Try.prog 41 #[.string (ByteArray.mk #[116])] w fun e w' => e = .returned (.string ⟨bO.toArray⟩) ∧ w' = w := by
  go_enter Try.func41, Try.ntmps41
  go_wp2
  go_ret
  exact ⟨rfl, rfl⟩
theorem conN14 (w : World) : Calls Try.prog 44 #[.string (ByteArray.mk #[78, 105, 108])] w fun e w' => e = .returned (.string ⟨bN.toArray⟩) ∧ w' = w := by
  go_enter Try.func44, Try.ntmps44
  go_wp2
  go_ret
  exact ⟨rfl, rfl⟩
theorem conC14 (w : World) : Calls Try.prog 44 #[.string (ByteArray.mk #[67, 111, 110, 115])] w fun e w' => e = .returned (.string ⟨bC.toArray⟩) ∧ w' = w := by
  go_enter Try.func44, Try.ntmps44
  go_wp2
  go_ret
  exact ⟨rfl, rfl⟩
/-- What stands still below the gatherer. -/
structure Str14 (P tb r : Nat) (a0 a1 : Option Addr) (p0 p1 : Nat) (w : World) : Prop where
  p : Arr w P 28 [.slice (some ⟨tb, 0, none⟩) 1 1, .slice none 0 0, .slice none 0 0, .slice none 0 0, .slice none 0 0]
  m : Arr w tb 42 [.string (ByteArray.mk #[116]), .int .i64 6, .int .i64 5, .slice none 0 0, .slice (some ⟨r, 0, none⟩) 2 2]
  c0 : w.cell? ⟨r, 0, none⟩ = some (.string (ByteArray.mk #[78, 105, 108]))
  c1 : w.cell? ⟨r, 1, none⟩ = some (.slice a0 0 p0)
  c2 : w.cell? ⟨r, 2, none⟩ = some (.string (ByteArray.mk #[67, 111, 110, 115]))
  c3 : w.cell? ⟨r, 3, none⟩ = some (.slice a1 1 p1)
theorem Str14.on {P tb r : Nat} {a0 a1 : Option Addr} {p0 p1 G : Nat} {w w' : World} (h : Str14 P tb r a0 a1 p0 p1 w) (hb : Below G w w') (h1 : P < G) (h2 : tb < G) (h3 : r < G) : Str14 P tb r a0 a1 p0 p1 w' :=
  ⟨⟨(hb.block P h1).trans h.p.b⟩, ⟨(hb.block tb h2).trans h.m.b⟩, (hb.cell (p := ⟨r, 0, none⟩) h3).trans h.c0, (hb.cell (p := ⟨r, 1, none⟩) h3).trans h.c1, (hb.cell (p := ⟨r, 2, none⟩) h3).trans h.c2, (hb.cell (p := ⟨r, 3, none⟩) h3).trans h.c3⟩
theorem bl_low {G : Nat} {w w' : World} (h : Below w.heap.size w w') (hG : G ≤ w.heap.size) : Below G w w' := h.mono hG

set_option maxHeartbeats 2000000 in
set_option maxRecDepth 100000 in
theorem types14 (w : World) (G base P tb r : Nat) (a0 a1 : Option Addr) (p0 p1 : Nat) (hG : Gt G base P 0 (.slice none 0 0) [] w) (hS : Str14 P tb r a0 a1 p0 p1 w) (h1 : P < G) (h2 : tb < G) (h3 : r < G) :
    Calls Try.prog 25 #[.pointer (some ⟨G, 0, none⟩)] w fun e w' => e = .returned (.tuple #[]) ∧ (∃ v m b0 b1, Gt G base P 3 v [.string ⟨bO.toArray⟩, .func (.func 42) #[] #[.pointer (some ⟨m, 0, none⟩)], .string ⟨bN.toArray⟩, .func (.func 45) #[] #[.pointer (some ⟨m, 0, none⟩), .pointer (some ⟨b0, 0, none⟩)], .string ⟨bC.toArray⟩, .func (.func 45) #[] #[.pointer (some ⟨m, 0, none⟩), .pointer (some ⟨b1, 0, none⟩)]] w' ∧ Arr w' m 83 [.pointer (some ⟨tb, 0, none⟩)] ∧ Arr w' b0 64 [.string (ByteArray.mk #[78, 105, 108]), .slice a0 0 p0] ∧ Arr w' b1 64 [.string (ByteArray.mk #[67, 111, 110, 115]), .slice a1 1 p1]) ∧ Below G w w' := by
  have HS := hid hS
  have HG := hid hG
  have g0 := hG.g.cell 0
  have q0 := hS.p.cell 0
  simp only [List.getElem?_cons_succ, List.getElem?_cons_zero] at g0 q0
  have hGw : G ≤ w.heap.size := Nat.le_of_lt hG.g.lt
  have hGl : G < w.heap.size := hG.g.lt
  have hW : w.heap.size ≠ G := by omega
  clear hG hS
  go_enter Try.func25, Try.ntmps25
  go_wp2
  refine wp_loop_rounds 2 ?_
  rw [rounds_succ]
  have B1 : Hid (Below w.heap.size w (w.alloc (.cells #[.pointer (some ⟨tb, 0, none⟩)] 83))) := bl_alloc (Below.refl _ _) _
  have HG1 := hid (HG.out.stays B1.out)
  have HS1 := hid (HS.out.on (bl_low B1.out hGw) h1 h2 h3)
  have M1 : Hid (Arr (w.alloc (.cells #[.pointer (some ⟨tb, 0, none⟩)] 83)) w.heap.size 83 [.pointer (some ⟨tb, 0, none⟩)]) := ⟨heap_alloc_at _ _⟩
  have t1 := HS1.out.m.cell
  have HBB1 := hid (bl_low B1.out hGw)
  clear HS HG B1
  have mark1 : Hid True := trivial
  have mark2 : Hid True := trivial
  go_wp2_with (first | (go_at_call 41; refine (out14 _).mono ?_; rintro e w' ⟨rfl, hw⟩; rw [hw]; clear hw w') | (go_at_call 40; have := mark1; refine (gadd_any _ G base P 0 _ _ _ _ _ _ HG1.out (by omega)).mono ?_; rintro e w2 ⟨rfl, ⟨v2, hg2⟩, ad2⟩; have HG2 := hid hg2; have HS2 := hid (HS1.out.on ad2.bl h1 h2 h3); have M2 := hid (ad2.arr _ _ _ hW (by decide) M1.out); have HBB2 := hid (HBB1.out.trans ad2.bl); have HZ2 : Hid (w.heap.size ≤ w2.heap.size) := (by have h9 := ad2.size; rw [size_alloc] at h9; show _ ≤ _; omega); have m2 := M2.out.cell; have t2 := HS2.out.m.cell; clear hg2 ad2 t1 mark1))
  refine wp_loop_rounds 3 ?_
  rw [rounds_succ]
  have n0 := HS2.out.c0
  have n1 := HS2.out.c1
  have n2 := HS2.out.c2
  have n3 := HS2.out.c3
  have hG2 : G ≤ w2.heap.size := by have := HZ2.out; omega
  have hW2 : w2.heap.size ≠ G := by have := HZ2.out; omega
  have D2 : Hid (Below w2.heap.size w2 (w2.alloc (.cells #[.string (ByteArray.mk #[78, 105, 108]), .slice a0 0 p0] 64))) := bl_alloc (Below.refl _ _) _
  have HG2b := hid (HG2.out.stays D2.out)
  have HS2b := hid (HS2.out.on (bl_low D2.out hG2) h1 h2 h3)
  have M2b := hid (M2.out.stays D2.out)
  have C2 : Hid (Arr (w2.alloc (.cells #[.string (ByteArray.mk #[78, 105, 108]), .slice a0 0 p0] 64)) w2.heap.size 64 [.string (ByteArray.mk #[78, 105, 108]), .slice a0 0 p0]) := ⟨heap_alloc_at _ _⟩
  have HBB2b := hid (HBB2.out.trans (bl_low D2.out hG2))
  have HZ2b : Hid (w.heap.size ≤ (w2.alloc (.cells #[.string (ByteArray.mk #[78, 105, 108]), .slice a0 0 p0] 64)).heap.size) := by have := HZ2.out; show _ ≤ _; rw [size_alloc]; omega
  clear HG2 HS2 M2 D2 HBB2 HZ2 m2 t2
  go_wp2_with (first | (go_at_call 44; refine (conN14 _).mono ?_; rintro e w' ⟨rfl, hw⟩; rw [hw]; clear hw w') | (go_at_call 40; refine (gadd_any _ G base P 1 _ _ _ _ _ _ HG2b.out (by omega)).mono ?_; rintro e w4 ⟨rfl, ⟨v4, hg4⟩, ad4⟩; have HG4 := hid hg4; have HS4 := hid (HS2b.out.on ad4.bl h1 h2 h3); have M4 := hid (ad4.arr _ _ _ hW (by decide) M2b.out); have C24 := hid (ad4.arr _ _ _ hW2 (by decide) C2.out); have HBB4 := hid (HBB2b.out.trans ad4.bl); have HZ4 : Hid (w.heap.size ≤ w4.heap.size) := Nat.le_trans HZ2b.out ad4.size; have m4 := M4.out.cell; have t4 := HS4.out.m.cell; clear hg4 ad4))
  clear n0 n1 n2 n3
  rw [rounds_succ]
  have n0 := HS4.out.c0
  have n1 := HS4.out.c1
  have n2 := HS4.out.c2
  have n3 := HS4.out.c3
  have hG4 : G ≤ w4.heap.size := by have := HZ4.out; omega
  have hW4 : w4.heap.size ≠ G := by have := HZ4.out; omega
  have D4 : Hid (Below w4.heap.size w4 (w4.alloc (.cells #[.string (ByteArray.mk #[67, 111, 110, 115]), .slice a1 1 p1] 64))) := bl_alloc (Below.refl _ _) _
  have HG4b := hid (HG4.out.stays D4.out)
  have HS4b := hid (HS4.out.on (bl_low D4.out hG4) h1 h2 h3)
  have M4b := hid (M4.out.stays D4.out)
  have C4 : Hid (Arr (w4.alloc (.cells #[.string (ByteArray.mk #[67, 111, 110, 115]), .slice a1 1 p1] 64)) w4.heap.size 64 [.string (ByteArray.mk #[67, 111, 110, 115]), .slice a1 1 p1]) := ⟨heap_alloc_at _ _⟩
  have HBB4b := hid (HBB4.out.trans (bl_low D4.out hG4))
  have HZ4b : Hid (w.heap.size ≤ (w4.alloc (.cells #[.string (ByteArray.mk #[67, 111, 110, 115]), .slice a1 1 p1] 64)).heap.size) := by have := HZ4.out; show _ ≤ _; rw [size_alloc]; omega
  have C24b := hid (C24.out.stays D4.out)
  clear HG4 HS4 M4 D4 HBB4 HZ4 m4 t4
  go_wp2_with (first | (go_at_call 44; refine (conC14 _).mono ?_; rintro e w' ⟨rfl, hw⟩; rw [hw]; clear hw w') | (go_at_call 40; refine (gadd_any _ G base P 2 _ _ _ _ _ _ HG4b.out (by omega)).mono ?_; rintro e w6 ⟨rfl, ⟨v6, hg6⟩, ad6⟩; have HG6 := hid hg6; have HS6 := hid (HS4b.out.on ad6.bl h1 h2 h3); have M6 := hid (ad6.arr _ _ _ hW (by decide) M4b.out); have C46 := hid (ad6.arr _ _ _ hW4 (by decide) C4.out); have C26 := hid (ad6.arr _ _ _ hW2 (by decide) C24b.out); have HBB6 := hid (HBB4b.out.trans ad6.bl); have HZ6 : Hid (w.heap.size ≤ w6.heap.size) := Nat.le_trans HZ4b.out ad6.size; have m6 := M6.out.cell; have t6 := HS6.out.m.cell; clear hg6 ad6))
  clear n0 n1 n2 n3
  rw [rounds_succ]
  go_wp2
  rw [rounds_succ]
  go_wp2
  first | refine bodyPost_end (results_none rfl _ _ _) rfl ?_ | refine bodyPost_ret (results_none rfl _ _ _) rfl ?_
  exact ⟨rfl, ⟨_, _, _, _, HG6.out, M6.out, C26.out, C46.out⟩, HBB6.out⟩
end Go.Proofs.Ytigliglmejkakab
