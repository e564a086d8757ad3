/- The twin's state. -/
import Derived.Test.YtfeppchgmobfpaaGreatDoorTgT
namespace Go.Proofs.YtfeppchgmobfpaaGreatDoor
open Go.RowKit
set_option linter.unusedVariables false
set_option linter.unusedSimpArgs false

theorem Wk.up {w : World} {M : Nat} {T : TypeId} {vs : List Value} {q B : Nat} {mv lv : Value} {e : List (Int × Int)} {n n' : Nat} (h : Wk w M T vs q B mv lv e n) (hn : n ≤ n') : Wk w M T vs q B mv lv e n' := ⟨h.arr, h.m, h.l, h.nm, h.nl, h.scp.le hn, h.lt, h.le⟩
/-- What one walker does leaves the other as it was. -/
theorem Wk.beside {w w' : World} {M : Nat} {T : TypeId} {vs vs' : List Value} {q q' B : Nat} {mv lv mv' lv' mo lo : Value} {e e' eo : List (Int × Int)} {n n' m : Nat} (h : Wk w M T vs q B mv lv e n) (ho : Wk w M T vs q' B mo lo eo m) (hd : ∀ b, Os mv lv b → ¬ Os mo lo b) (hq : q + 6 ≤ q' ∨ q' + 6 ≤ q) (hvs : vs' = (vs.set (q + 2) mv').set (q + 2 + 1) lv') (h' : Wk w' M T vs' q B mv' lv' e' n') (hev : Ev (Om M mv lv) w (Om M mv' lv') w') :
    Wk w' M T vs' q' B mo lo eo m ∧ ∀ b, Os mv' lv' b → ¬ Os mo lo b := by
  obtain ⟨-, -, h3⟩ := set_two (mv' := mv') (lv' := lv') h.m h.l
  have hv : ∀ j, j ≠ q + 2 → j ≠ q + 2 + 1 → vs'[j]? = vs[j]? := fun j a b => by rw [hvs]; exact h3 j a b
  refine ⟨⟨h'.arr, (hv _ (by omega) (by omega)).trans ho.m, (hv _ (by omega) (by omega)).trans ho.l, (hv _ (by omega) (by omega)).trans ho.nm, (hv _ (by omega) (by omega)).trans ho.nl, ho.scp.blocks (fun b hb => hev.block b (ho.scp.ge hb).2 (fun hq => ?_)), ho.lt, h'.le⟩, fun b hb hb2 => ?_⟩
  · rcases hq with rfl | hq
    · have := (ho.scp.ge hb).1; have := ho.lt; omega
    · exact hd b hq hb
  · have hg := ho.scp.ge hb2
    rcases hev.mine b (.inr hb) with (rfl | h1) | h1
    · have := ho.lt; omega
    · exact hd b h1 hb2
    · omega
/-- The twin in block M: what is bound on either side; what it owns. -/
def Tw (M : Nat) (w : World) (own : Nat → Prop) (e1 e2 : List (Int × Int)) (n : Nat) : Prop :=
  ∃ vs mv lv mv' lv', Wk w M TW vs 0 (M + 1) mv lv e1 n ∧ Wk w M TW vs 6 (M + 1) mv' lv' e2 n ∧ (∀ b, Os mv lv b → ¬ Os mv' lv' b) ∧ own = fun b => b = M ∨ Os mv lv b ∨ Os mv' lv' b
theorem Tw.own {M : Nat} {w : World} {own : Nat → Prop} {e1 e2 : List (Int × Int)} {n : Nat} (h : Tw M w own e1 e2 n) : ∀ b, own b → M ≤ b ∧ b < w.heap.size := by
  obtain ⟨vs, mv, lv, mv', lv', h1, h2, h3, rfl⟩ := h
  intro b hb
  rcases hb with rfl | hb | hb
  · exact ⟨Nat.le_refl _, h1.arr.lt⟩
  · have := h1.scp.ge hb; omega
  · have := h2.scp.ge hb; omega
theorem Tw.stays {M : Nat} {w w' : World} {own : Nat → Prop} {e1 e2 : List (Int × Int)} {n : Nat} (h : Tw M w own e1 e2 n) (hb : Below w.heap.size w w') : Tw M w' own e1 e2 n := by
  obtain ⟨vs, mv, lv, mv', lv', h1, h2, h3, h4⟩ := h
  exact ⟨vs, mv, lv, mv', lv', h1.stays hb, h2.stays hb, h3, h4⟩
theorem Tw.up {M : Nat} {w : World} {own : Nat → Prop} {e1 e2 : List (Int × Int)} {n m : Nat} (h : Tw M w own e1 e2 n) (hn : n ≤ m) : Tw M w own e1 e2 m := by
  obtain ⟨vs, mv, lv, mv', lv', h1, h2, h3, h4⟩ := h
  exact ⟨vs, mv, lv, mv', lv', h1.up hn, h2.up hn, h3, h4⟩
theorem Tw.other {M : Nat} {w : World} {own : Nat → Prop} {e1 e2 : List (Int × Int)} {n : Nat} (h : Tw M w own e1 e2 n) {p : Addr} (hp : ¬ own p.block) (v : Value) : Tw M (w.setCell p v) own e1 e2 n := by
  obtain ⟨vs, mv, lv, mv', lv', h1, h2, h3, h4⟩ := h
  rw [h4] at hp
  exact ⟨vs, mv, lv, mv', lv', h1.other (fun h => hp (h.elim .inl (fun h => .inr (.inl h)))) v, h2.other (fun h => hp (h.elim .inl (fun h => .inr (.inr h)))) v, h3, h4⟩
theorem Tw.left {M : Nat} {w : World} {own : Nat → Prop} {e1 e2 : List (Int × Int)} {n : Nat} (h : Tw M w own e1 e2 n) : ∃ vs mv lv, Wk w M TW vs 0 (M + 1) mv lv e1 n ∧ ∀ w' vs' mv' lv' e' n', n ≤ n' → vs' = (vs.set (0 + 2) mv').set (0 + 2 + 1) lv' → Wk w' M TW vs' 0 (M + 1) mv' lv' e' n' → Ev (Om M mv lv) w (Om M mv' lv') w' → ∃ own', Tw M w' own' e' e2 n' ∧ Ev own w own' w' := by
  obtain ⟨vs, mv, lv, mo, lo, h1, h2, h3, rfl⟩ := h
  refine ⟨vs, mv, lv, h1, fun w' vs' mv' lv' e' n' hn hvs h' hev => ?_⟩
  obtain ⟨g1, g2⟩ := h1.beside h2 h3 (.inl (by omega)) hvs h' hev
  refine ⟨_, ⟨vs', mv', lv', mo, lo, h', g1.up hn, g2, rfl⟩, ⟨hev.os, hev.tape, hev.output, hev.size, fun b hb => ?_, fun b hb hq => hev.block b hb (fun h => hq (h.elim .inl (fun h => .inr (.inl h))))⟩⟩
  rcases hb with rfl | hb | hb
  · exact .inl (.inl rfl)
  · exact (hev.mine b (.inr hb)).imp (fun h => h.elim .inl (fun h => .inr (.inl h))) id
  · exact .inl (.inr (.inr hb))
theorem Tw.right {M : Nat} {w : World} {own : Nat → Prop} {e1 e2 : List (Int × Int)} {n : Nat} (h : Tw M w own e1 e2 n) : ∃ vs mv lv, Wk w M TW vs 6 (M + 1) mv lv e2 n ∧ ∀ w' vs' mv' lv' e' n', n ≤ n' → vs' = (vs.set (6 + 2) mv').set (6 + 2 + 1) lv' → Wk w' M TW vs' 6 (M + 1) mv' lv' e' n' → Ev (Om M mv lv) w (Om M mv' lv') w' → ∃ own', Tw M w' own' e1 e' n' ∧ Ev own w own' w' := by
  obtain ⟨vs, mo, lo, mv, lv, h1, h2, h3, rfl⟩ := h
  refine ⟨vs, mv, lv, h2, fun w' vs' mv' lv' e' n' hn hvs h' hev => ?_⟩
  obtain ⟨g1, g2⟩ := h2.beside h1 (fun b a c => h3 b c a) (.inr (by omega)) hvs h' hev
  refine ⟨_, ⟨vs', mo, lo, mv', lv', g1.up hn, h', fun b a c => g2 b c a, rfl⟩, ⟨hev.os, hev.tape, hev.output, hev.size, fun b hb => ?_, fun b hb hq => hev.block b hb (fun h => hq (h.elim .inl (fun h => .inr (.inr h))))⟩⟩
  rcases hb with rfl | hb | hb
  · exact .inl (.inl rfl)
  · exact .inl (.inr (.inl hb))
  · exact (hev.mine b (.inr hb)).imp (fun h => h.elim .inl (fun h => .inr (.inr h))) id
theorem Ev.lt {own own' : Nat → Prop} {w w' : World} {M : Nat} (h : Ev own w own' w') (ho : ∀ b, own b → M ≤ b) : Keeps (fun b => b < M) w w' := fun b o v hb hv => (h.cell (p := ⟨b, o, none⟩) (World.block_lt_of_cell? w _ hv) (fun hq => by have := ho b hq; omega)).trans hv
theorem Tw.keeps {M : Nat} {w w' : World} {own own' : Nat → Prop} {e1 e2 : List (Int × Int)} {n : Nat} (h : Tw M w own e1 e2 n) (hev : Ev own w own' w') : Keeps (fun b => b < M) w w' := hev.lt (fun b hb => (h.own b hb).1)
theorem intoL (M : Nat) (w : World) (own : Nat → Prop) (e1 e2 : List (Int × Int)) (n k b o : Nat) (t : Tt) (h : Tw M w own e1 e2 n) (hP : PAt w (fun b => b < M) k b o t) (hn : n < 4611686018427387904) (he : e1.length < 1099511627776) : Calls Tryz.prog 75 #[.pointer (some ⟨M, 0, none⟩), .pointer (some ⟨b, o, none⟩)] w fun r w' => r = .returned (.agg #[.int .i64 e1.length, .int .i64 0]) ∧ ∃ own', Tw M w' own' (t.env e1) e2 (n + 1) ∧ Ev own w own' w' := by
  obtain ⟨vs, mv, lv, h1, h2⟩ := h.left
  refine (into_any w M TW vs 0 (M + 1) mv lv e1 n k b o t hP h1 hn he).mono ?_
  rintro r w' ⟨rfl, vs', mv', lv', hvs, hw, hev⟩
  exact ⟨rfl, h2 w' vs' mv' lv' _ _ (by omega) hvs hw hev⟩
theorem intoR (M : Nat) (w : World) (own : Nat → Prop) (e1 e2 : List (Int × Int)) (n k b o : Nat) (t : Tt) (h : Tw M w own e1 e2 n) (hP : PAt w (fun b => b < M) k b o t) (hn : n < 4611686018427387904) (he : e2.length < 1099511627776) : Calls Tryz.prog 75 #[.pointer (some ⟨M, 6, none⟩), .pointer (some ⟨b, o, none⟩)] w fun r w' => r = .returned (.agg #[.int .i64 e2.length, .int .i64 0]) ∧ ∃ own', Tw M w' own' e1 (t.env e2) (n + 1) ∧ Ev own w own' w' := by
  obtain ⟨vs, mv, lv, h1, h2⟩ := h.right
  refine (into_any w M TW vs 6 (M + 1) mv lv e2 n k b o t hP h1 hn he).mono ?_
  rintro r w' ⟨rfl, vs', mv', lv', hvs, hw, hev⟩
  exact ⟨rfl, h2 w' vs' mv' lv' _ _ (by omega) hvs hw hev⟩
theorem env_len (t : Tt) (e : List (Int × Int)) : e.length ≤ (t.env e).length ∧ (t.env e).length ≤ e.length + 1 ∧ (t.env e).drop ((t.env e).length - e.length) = e := by
  unfold Tt.env
  split
  · refine ⟨by simp, by simp, ?_⟩
    rw [List.length_cons, show e.length + 1 - e.length = 1 by omega]; rfl
  · simp
theorem backL (M : Nat) (w : World) (own : Nat → Prop) (e1 e2 : List (Int × Int)) (n : Nat) (t : Tt) (h : Tw M w own (t.env e1) e2 n) (hn : n + e1.length + 1 < 4611686018427387904) : Calls Tryz.prog 77 #[.pointer (some ⟨M, 0, none⟩), .agg #[.int .i64 e1.length, .int .i64 0]] w fun r w' => r = .returned (.tuple #[]) ∧ ∃ own', Tw M w' own' e1 e2 (n + e1.length + 1) ∧ Ev own w own' w' := by
  obtain ⟨vs, mv, lv, h1, h2⟩ := h.left
  obtain ⟨l1, l2, l3⟩ := env_len t e1
  refine (wback_any w M TW vs 0 (M + 1) mv lv (t.env e1) n e1.length h1 (by omega) l1).mono ?_
  rintro r w' ⟨rfl, vs', lv', hvs, hw, hev⟩
  rw [l3] at hw
  exact ⟨rfl, h2 w' vs' mv lv' _ _ (by omega) hvs (hw.up (by omega)) hev⟩
theorem backR (M : Nat) (w : World) (own : Nat → Prop) (e1 e2 : List (Int × Int)) (n : Nat) (t : Tt) (h : Tw M w own e1 (t.env e2) n) (hn : n + e2.length + 1 < 4611686018427387904) : Calls Tryz.prog 77 #[.pointer (some ⟨M, 6, none⟩), .agg #[.int .i64 e2.length, .int .i64 0]] w fun r w' => r = .returned (.tuple #[]) ∧ ∃ own', Tw M w' own' e1 e2 (n + e2.length + 1) ∧ Ev own w own' w' := by
  obtain ⟨vs, mv, lv, h1, h2⟩ := h.right
  obtain ⟨l1, l2, l3⟩ := env_len t e2
  refine (wback_any w M TW vs 6 (M + 1) mv lv (t.env e2) n e2.length h1 (by omega) l1).mono ?_
  rintro r w' ⟨rfl, vs', lv', hvs, hw, hev⟩
  rw [l3] at hw
  exact ⟨rfl, h2 w' vs' mv lv' _ _ (by omega) hvs (hw.up (by omega)) hev⟩
/-- A box that a walk has made, beside what it owns. -/
structure Bx (n0 : Nat) (w : World) (own : Nat → Prop) (p : Nat) (T : TypeId) (vs : List Value) : Prop where
  arr : Arr w p T vs
  no : ¬ own p
  ge : n0 ≤ p
theorem Bx.stays {n0 : Nat} {w w' : World} {own : Nat → Prop} {p : Nat} {T : TypeId} {vs : List Value} (h : Bx n0 w own p T vs) (hb : Below w.heap.size w w') : Bx n0 w' own p T vs := ⟨h.arr.stays hb, h.no, h.ge⟩
theorem Bx.ev {n0 : Nat} {w w' : World} {own own' : Nat → Prop} {p : Nat} {T : TypeId} {vs : List Value} (h : Bx n0 w own p T vs) (hev : Ev own w own' w') : Bx n0 w' own' p T vs := ⟨⟨(hev.block p h.arr.lt h.no).trans h.arr.b⟩, fun hq => (hev.mine p hq).elim h.no (fun hl => by have := h.arr.lt; omega), h.ge⟩
theorem Bx.new {n0 : Nat} {w : World} {own : Nat → Prop} (T : TypeId) (vs : List Value) (ho : ∀ b, own b → b < w.heap.size) (hn : n0 ≤ w.heap.size) : Bx n0 (w.alloc (.cells vs.toArray T)) own w.heap.size T vs := ⟨⟨heap_alloc_at _ _⟩, fun h => by have := ho _ h; omega, hn⟩
theorem Bx.set {n0 : Nat} {w : World} {own : Nat → Prop} {p : Nat} {T : TypeId} {vs : List Value} (h : Bx n0 w own p T vs) (j : Nat) (v : Value) : Bx n0 (w.setCell ⟨p, j, none⟩ v) own p T (vs.set j v) := ⟨h.arr.set j v, h.no, h.ge⟩
theorem Bx.other {n0 : Nat} {w : World} {own : Nat → Prop} {p : Nat} {T : TypeId} {vs : List Value} (h : Bx n0 w own p T vs) {a : Addr} (ha : p ≠ a.block) (v : Value) : Bx n0 (w.setCell a v) own p T vs := ⟨h.arr.other ha v, h.no, h.ge⟩
theorem Tw.init (w : World) : Tw w.heap.size (w.alloc (.cells #[.pointer none, .slice none 0 0, .map none, .slice none 0 0, .map none, .slice none 0 0, .pointer none, .slice none 0 0, .map none, .slice none 0 0, .map none, .slice none 0 0] TW)) (fun b => b = w.heap.size) [] [] 0 := by
  refine ⟨_, .map none, .slice none 0 0, .map none, .slice none 0 0, ⟨⟨heap_alloc_at _ _⟩, rfl, rfl, rfl, rfl, Scp.init _ _, by omega, by simp⟩, ⟨⟨heap_alloc_at _ _⟩, rfl, rfl, rfl, rfl, Scp.init _ _, by omega, by simp⟩, fun b hb => ?_, ?_⟩
  · rcases hb with hb | hb <;> cases hb
  · funext b
    apply propext
    constructor
    · exact .inl
    · rintro (h | (h | h) | (h | h))
      · exact h
      all_goals cases h
end Go.Proofs.YtfeppchgmobfpaaGreatDoor
