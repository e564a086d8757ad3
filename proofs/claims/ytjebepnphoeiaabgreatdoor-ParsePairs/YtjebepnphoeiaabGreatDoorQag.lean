/- Pieces: LexLex LexC LexAlive. -/
import Derived.OwnWalk
import Derived.Laws.OwnMore
import Derived.Test.YtjebepnphoeiaabGreatDoorQaf
import Derived.Test.YtjebepnphoeiaabGreatDoorQad
import Derived.KernelRfl
namespace Go.Proofs.YtjebepnphoeiaabGreatDoor
open Go.RowKit
set_option linter.unusedVariables false

theorem own_below {w w' : World} {base : Nat} {e : TypeId} {size : Nat} {v : Value} {n : Nat} {xs : List Value} (h : w.ownsRow base e size v n xs) (hb : Below w.heap.size w w') : w'.ownsRow base e size v n xs :=
 h.kept (row := none) ⟨hb.os, hb.tape, hb.output, hb.size, fun k hk _ => hb.block k hk⟩ (by cases hv : v.ownBlock <;> simp)
theorem lxTr {w a b : World} (h : Below w.heap.size w a) (k : Below a.heap.size a b) : Below w.heap.size w b := h.trans (k.mono h.size)
theorem lxBlock {w : World} {base : Nat} {e : TypeId} {size : Nat} {v : Value} {n : Nat} {xs : List Value} (h : w.ownsRow base e size v n xs) : ∀ j, v.ownBlock = some j → base ≤ j := fun j ej => (h.lt j ej).1
theorem own_form {w : World} {base : Nat} {e : TypeId} {size : Nat} {v : Value} {n : Nat} {xs : List Value} (h : w.ownsRow base e size v n xs) : ∃ a c, v = .slice a n c := by
 rcases h.2 with ⟨rfl, hn⟩ | ⟨g, cap, cur, rfl, rest⟩
 ·
  exact ⟨none, 0, by rw [hn]⟩
 ·
  exact ⟨_, _, rfl⟩
theorem own_ne {w : World} {base : Nat} {e : TypeId} {size : Nat} {v : Value} {n : Nat} {xs : List Value} (h : w.ownsRow base e size v n xs) : some w.heap.size ≠ v.ownBlock := fun e => by
 have := (h.lt _ e.symm).2; omega
theorem info_tok : (Tryz.prog.info? 77).map (fun i => (i.zero, i.size, i.bytes)) = some (some (.agg #[.int .i64 0, .string ⟨#[]⟩, .int .i64 0, .int .i64 0]), 4, 40) := by kernel_rfl
theorem cells_new (w : World) (a b c d : Value) (t : TypeId) : ∀ (j : Nat) (u : Value), [a, b, c, d][j]? = some u → (w.alloc (.cells #[a, b, c, d] t)).cell? ((⟨w.heap.size, 0, none⟩ : Addr).add j) = some u := by
 intro j u h
 match j, h with
 | 0, h => cases h; simp [go_sem, Addr.add]
 | 1, h => cases h; simp [go_sem, Addr.add]
 | 2, h => cases h; simp [go_sem, Addr.add]
 | 3, h => cases h; simp [go_sem, Addr.add]
 | j + 4, h => simp at h

def Lx.cells (S : Nat) (t : Lx.Tok) : List Value := [.int .i64 (t.kind : Int), .string ⟨t.text.toArray⟩, .int .i64 (t.n : Int), .int .i64 ((S - t.left : Nat) : Int)]
def Lx.Res.puts (pre : List Lx.Tok) : Lx.Res → Lx.Res
 | .bad n e => .bad n e
 | .good l => .good (pre ++ l)
theorem Lx.puts_nil (R : Lx.Res) : R.puts [] = R := by cases R <;> rfl
theorem Lx.puts_on (pre : List Lx.Tok) (t : Lx.Tok) (R : Lx.Res) : (R.put t).puts pre = R.puts (pre ++ [t]) := by
 cases R with
 | bad n e => rfl
 | good l => show Lx.Res.good _ = Lx.Res.good _; rw [List.append_assoc]; rfl
theorem Lx.skip_drop : ∀ (N : Nat) (l : List UInt8), l.length ≤ N → (Lx.skip l).1 = l.drop (l.length - (Lx.skip l).1.length)
 | N, [], hN => by rw [Lx.skip_nil]; rfl
 | 0, c :: t, hN => by simp at hN
 | N + 1, c :: t, hN => by
  cases hb : Lx.blank (c.toNat : Int) with
  | true =>
   rw [Lx.skip_blank hb]
   have h1 := Lx.skip_drop N t (by simp at hN; omega)
   have h2 := Lx.skip_len _ t (Nat.le_refl _)
   rw [List.length_cons, show t.length + 1 - (Lx.skip t).1.length = t.length - (Lx.skip t).1.length + 1 by omega, List.drop_succ_cons]
   exact h1
  | false =>
   cases ho : Lx.opens (c :: t) with
   | false => rw [Lx.skip_stop hb ho]; simp
   | true =>
    cases hR : Lx.rem (c :: t) 0 with
    | none => rw [Lx.skip_open ho hR]; simp
    | some r1 =>
     rw [Lx.skip_rem ho hR]
     have hlt := Lx.rem_lt _ _ _ hR
     have h1 := Lx.skip_drop N r1 (by simp at hN hlt; omega)
     have h2 := Lx.skip_len _ r1 (Nat.le_refl _)
     have h3 := Lx.rem_drop hR
     have e : ∀ m, r1.drop m = (c :: t).drop ((c :: t).length - r1.length + m) := fun m => by rw [← List.drop_drop, ← h3]
     rw [e, show (c :: t).length - r1.length + (r1.length - (Lx.skip r1).1.length) = (c :: t).length - (Lx.skip r1).1.length by omega] at h1
     exact h1
theorem Lx.bad_codes {l : List UInt8} {e : Int} (h : Lx.next l = .bad e) : e = 10 ∨ e = 1 ∨ e = 12 := by
 unfold Lx.next at h
 simp only at h
 split at h
 ·
  cases h; exact .inl rfl
 ·
  split at h
  ·
   cases h
  ·
   split at h
   ·
    split at h
    ·
     cases h
    ·
     cases h; exact .inr (.inl rfl)
   ·
    split at h
    ·
     cases h; exact .inr (.inr rfl)
    ·
     cases h

def LexAns (R : Lx.Res) (S B : Nat) (e : Ending) (w' : World) : Prop := match R with
 | .bad n c => e = .returned (.tuple #[.slice none 0 0, .int .i64 ((S - n : Nat) : Int), .int .i64 c])
 | .good ts => ∃ v, e = .returned (.tuple #[v, .int .i64 0, .int .i64 0]) ∧ w'.ownsRow B 77 4 v ts.length (ts.flatMap (Lx.cells S))
theorem LexAns.bad {R : Lx.Res} {S B n : Nat} {c : Int} (h : R = .bad n c) {p : Int} (hp : p = ((S - n : Nat) : Int)) (w' : World) : LexAns R S B (.returned (.tuple #[.slice none 0 0, .int .i64 p, .int .i64 c])) w' := by rw [h, hp]; rfl

set_option maxRecDepth 100000 in
set_option maxHeartbeats 4000000 in
theorem lxLex_any (s : ByteArray) (hs : s.size ≤ maxLen) (w : World) (ev : Value) (hv1 : w.cell? ⟨1, 0, none⟩ = some ev) (hev : ev = .nilIface ∨ ∃ te pe, ev = .iface te pe) :
  Calls Tryz.prog 29 #[.string s] w fun e w' => LexAns (Lx.lex s.data.toList) s.size w.heap.size e w' ∧ Below w.heap.size w w' := by
 unfold maxLen at hs
 by_cases hbig : 4096 < s.size
 ·
  have H : Hid (Lx.lex s.data.toList = .bad s.size 3) := by show _ = _; unfold Lx.lex; rw [Nm.len, if_pos hbig]
  have hb0 : Hid (s.size - s.size = 0) := by show _ = _; omega
  have hb2 : (4096 : Int) < (s.size : Int) := by omega
  clear hbig hs
  go_enter Tryz.func29, Tryz.ntmps29
  go_wp2
  go_ret3
  exact ⟨LexAns.bad H.out (by rw [hb0.out]; rfl) _, Below.refl _ _⟩
 ·
  have hs4 : s.size ≤ 4096 := by omega
  have H : Hid (Lx.lex s.data.toList = Lx.lexN 1024 s.data.toList) := by show _ = _; unfold Lx.lex; rw [Nm.len, if_neg hbig]
  obtain ⟨i0, hi, hz0, hz1, hz2⟩ := info_parts info_tok
  clear hs
  go_enter Tryz.func29, Tryz.ntmps29
  go_wp2
  go_loopw [5, 6] (fun lv av wr => ∃ (pre : List Lx.Tok) (k : Nat), av = .int .i64 k ∧ k ≤ s.size ∧ pre.length ≤ 1024 ∧ Hid (Lx.lexN 1024 s.data.toList = (Lx.lexN (1024 - pre.length) (s.data.toList.drop k)).puts pre) ∧ wr.ownsRow w.heap.size 77 4 lv pre.length (pre.flatMap (Lx.cells s.size)) ∧ Below w.heap.size w wr) (fun _ av _ => s.size - (intOf av).toNat)
  case atStart => exact ⟨[], 0, rfl, Nat.zero_le _, Nat.zero_le _, (Lx.puts_nil _).symm, World.ownsRow_nil _ _ _ _, Below.refl _ _⟩
  case round =>
   obtain ⟨pre, k, rfl, hk, hpl, hx, hrow, hB⟩ := hrel
   have hx2 := hx.out
   rw [Lx.lexN_eq (1024 - pre.length)] at hx2
   have hz := Lx.rest_size s k
   have hz4 : (s.extract k s.size).size ≤ 4096 := by rw [hz]; omega
   have hsk := lxSkip_any (s.extract k s.size) hz4
   rw [hz, Lx.rest] at hsk
   have hlen := Lx.skip_len _ (s.data.toList.drop k) (Nat.le_refl _)
   have hdrop := Lx.skip_drop _ (s.data.toList.drop k) (Nat.le_refl _)
   rw [List.length_drop, Nm.len] at hlen hdrop
   rw [List.drop_drop, show k + (s.size - k - (Lx.skip (s.data.toList.drop k)).1.length) = s.size - (Lx.skip (s.data.toList.drop k)).1.length by omega] at hdrop
   generalize hq : Lx.skip (s.data.toList.drop k) = q at *
   obtain ⟨r, ok⟩ := q
   simp only at hx2 hlen hdrop hsk
   clear hx hq hz hz4
   obtain ⟨a, ha⟩ : ∃ a, a = s.size - r.length := ⟨_, rfl⟩
   have hg : s.size - k - r.length = a - k := by omega
   have hka : k ≤ a := by omega
   have haS : a ≤ s.size := by omega
   have hka2 : (k : Int) + ((a - k : Nat) : Int) = (a : Int) := by omega
   have hra : r.length = s.size - a := by omega
   rw [← ha] at hdrop
   rw [hg] at hsk
   rw [hra] at hx2
   clear hg hlen ha
   cases ok with
   | false =>
    rw [if_pos rfl] at hx2
    have HX : Hid (Lx.lex s.data.toList = .bad (s.size - a) 10) := by show _ = _; rw [H.out, hx2]; rfl
    clear hx2 H
    go_wp2_with (go_at_call 61; refine (hsk _).mono ?_; rintro e w1 ⟨rfl, hw1⟩; rw [hw1]; clear hw1 w1)
    go_ret3
    exact ⟨LexAns.bad HX.out (by omega) _, hB⟩
   | true =>
    rw [if_neg (by simp)] at hx2
    by_cases haE : a = s.size
    ·
     have hr0 : r = [] := List.eq_nil_of_length_eq_zero (by omega)
     rw [if_pos hr0] at hx2
     have HX : Hid (Lx.lex s.data.toList = .good pre) := by show _ = _; rw [H.out, hx2]; show Lx.Res.good (pre ++ []) = _; rw [List.append_nil]
     subst haE
     clear hx2 H hdrop hr0
     go_wp2_with (go_at_call 61; refine (hsk _).mono ?_; rintro e w1 ⟨rfl, hw1⟩; rw [hw1]; clear hw1 w1)
     go_ret3
     refine ⟨?_, hB⟩
     rw [HX.out]
     exact ⟨_, rfl, hrow⟩
    ·
     have hr1 : ¬ r = [] := fun e => by rw [e] at hra; simp at hra; omega
     rw [if_neg hr1] at hx2
     have haL : a < s.size := by omega
     have hz := Lx.rest_size s a
     have hrd := fun w2 h => lxRead_any (s.extract a s.size) (by rw [hz]; omega) (by rw [hz]; omega) w2 ev h hev
     rw [Lx.rest, ← hdrop] at hrd
     have hv2 : ∀ {W : World}, Below w.heap.size w W → W.cell? ⟨1, 0, none⟩ = some ev := fun h => (h.cell (lxLt hv1)).trans hv1
     cases hn : Lx.next r with
     | bad c =>
      rw [hn] at hx2
      have HX : Hid (Lx.lex s.data.toList = .bad (s.size - a) c) := by show _ = _; rw [H.out, hx2]; rfl
      have hc := Lx.bad_codes hn
      have hnv : Lx.nextV r = .tuple #[.agg #[.int .i64 0, .string ⟨#[]⟩, .int .i64 0, .int .i64 0], .int .i64 c] := by unfold Lx.nextV; rw [hn]
      rw [hnv] at hrd
      clear hx2 H hdrop hr1 hn hnv hz haE
      rcases hc with rfl | rfl | rfl
      ·
       go_wp2_with (first | (go_at_call 61; refine (hsk _).mono ?_; rintro e w1 ⟨rfl, hw1⟩; rw [hw1]; clear hw1 w1) | (go_at_call 62; refine (hrd _ (hv2 hB)).mono ?_; rintro e w2 ⟨rfl, hb2⟩))
       go_ret3
       exact ⟨LexAns.bad HX.out (by omega) _, lxBa (lxTr hB hb2) _⟩
      ·
       go_wp2_with (first | (go_at_call 61; refine (hsk _).mono ?_; rintro e w1 ⟨rfl, hw1⟩; rw [hw1]; clear hw1 w1) | (go_at_call 62; refine (hrd _ (hv2 hB)).mono ?_; rintro e w2 ⟨rfl, hb2⟩))
       go_ret3
       exact ⟨LexAns.bad HX.out (by omega) _, lxBa (lxTr hB hb2) _⟩
      ·
       go_wp2_with (first | (go_at_call 61; refine (hsk _).mono ?_; rintro e w1 ⟨rfl, hw1⟩; rw [hw1]; clear hw1 w1) | (go_at_call 62; refine (hrd _ (hv2 hB)).mono ?_; rintro e w2 ⟨rfl, hb2⟩))
       go_ret3
       exact ⟨LexAns.bad HX.out (by omega) _, lxBa (lxTr hB hb2) _⟩
     | good kd n =>
      rw [hn] at hx2
      have hnv : Lx.nextV r = .tuple #[.agg #[.int .i64 kd, .string ⟨(Lx.text r).toArray⟩, .int .i64 n, .int .i64 0], .int .i64 0] := by unfold Lx.nextV; rw [hn]
      rw [hnv] at hrd
      obtain ⟨g, cap, hform⟩ := own_form hrow
      subst hform
      by_cases hfull : pre.length = 1024
      ·
       rw [hfull] at hx2
       have HX : Hid (Lx.lex s.data.toList = .bad (s.size - a) 3) := by show _ = _; rw [H.out, hx2]; rfl
       clear hx2 H hdrop hr1 hn hnv hz haE
       go_wp2_with (first | (go_at_call 61; refine (hsk _).mono ?_; rintro e w1 ⟨rfl, hw1⟩; rw [hw1]; clear hw1 w1) | (go_at_call 62; refine (hrd _ (hv2 hB)).mono ?_; rintro e w2 ⟨rfl, hb2⟩))
       go_ret3
       exact ⟨LexAns.bad HX.out (by omega) _, lxBa (lxTr hB hb2) _⟩
      ·
       have hc1 : 1024 - pre.length = (1024 - (pre.length + 1)) + 1 := by omega
       rw [hc1] at hx2
       simp only at hx2
       rw [Lx.puts_on, hdrop, List.drop_drop, ← hdrop] at hx2
       have hk1 := Lx.next_kind hn
       have htp := Lx.text_pos r hk1.1
       have htl : (Lx.text r).length ≤ s.size - a := by
        have := congrArg List.length (Lx.text_pre r)
        rw [List.length_append, hra] at this; omega
       have hts : (⟨(Lx.text r).toArray⟩ : ByteArray).size = (Lx.text r).length := by
        show (Lx.text r).toArray.size = _; simp
       generalize hT : (⟨(Lx.text r).toArray⟩ : ByteArray) = T at *
       have HX : Hid (Lx.lexN 1024 s.data.toList = (Lx.lexN (1024 - (pre ++ [(⟨kd, Lx.text r, n, s.size - a⟩ : Lx.Tok)]).length) (s.data.toList.drop (a + T.size))).puts (pre ++ [(⟨kd, Lx.text r, n, s.size - a⟩ : Lx.Tok)])) := by
        show _ = _
        rw [List.length_append, hts]; exact hx2
       have HC : Hid ((pre ++ [(⟨kd, Lx.text r, n, s.size - a⟩ : Lx.Tok)]).flatMap (Lx.cells s.size) = pre.flatMap (Lx.cells s.size) ++ [.int .i64 (kd : Int), .string T, .int .i64 (n : Int), .int .i64 (a : Int)]) := by
        show _ = _
        rw [List.flatMap_append]
        show _ ++ (Lx.cells s.size _ ++ []) = _
        rw [List.append_nil]
        unfold Lx.cells
        rw [hT, show s.size - (s.size - a) = a by omega]
       have ht1 : 1 ≤ T.size := by omega
       have ht2 : a + T.size ≤ s.size := by omega
       clear hx2 H hdrop hr1 hn hnv hz haE hk1 htp htl hts hT hc1
       go_wp2_with (first
        | (go_at_call 61; refine (hsk _).mono ?_; rintro e w1 ⟨rfl, hw1⟩; rw [hw1]; clear hw1 w1)
        | (go_at_call 62; refine (hrd _ (hv2 hB)).mono ?_; rintro e w2 ⟨rfl, hb2⟩; have hrow2 := own_below hrow hb2; have hB2 := lxTr hB hb2)
        | (at_builtin; refine wpList_append_own _ rfl _ _ 68 rfl w.heap.size 77 i0 (.agg #[.int .i64 0, .string ⟨#[]⟩, .int .i64 0, .int .i64 0]) 4 40 Tryz.underlying68 hi hz0 hz1 hz2 rfl (by decide) _ _ _ rfl ((hrow2.alloc _).alloc _) ⟨w2.heap.size + 1, 0, none⟩ 1 1 [.int .i64 (kd : Int), .string T, .int .i64 (n : Int), .int .i64 (a : Int)] rfl rfl (by simpa using cells_new (w2.alloc _) _ _ _ _ _) (by simp [Value.oneCell']) (by unfold maxLen; omega) (by omega) (by have := hB2.size; simp; omega) ?_; intro v' w3 hown' hgrow _; have ht3 : w3.cell? ⟨w2.heap.size, 1, none⟩ = some (.string T) := hgrow.cell (by simp [go_sem]) (own_ne hrow2)))
       go_roundw
       case rel => exact ⟨pre ++ [(⟨kd, Lx.text r, n, s.size - a⟩ : Lx.Tok)], a + T.size, by go_num, ht2, by rw [List.length_append]; show pre.length + 1 ≤ 1024; omega, HX, by rw [HC.out, List.length_append]; exact hown', (lxBa (lxBa hB2 _) _).grown hgrow (by have := hB2.size; simp; omega) (lxBlock hrow)⟩
       case measure => simp [intOf]; omega
end Go.Proofs.YtjebepnphoeiaabGreatDoor
namespace Go.Proofs.YtjebepnphoeiaabGreatDoor
set_option linter.unusedVariables false

def Lx.skipF : Nat → List UInt8 → List UInt8 × Bool
 | 0, l => (l, true)
 | N + 1, [] => ([], true)
 | N + 1, c :: t =>
  if Lx.blank (c.toNat : Int) then Lx.skipF N t
  else if Lx.opens (c :: t) then
   match Lx.rem (c :: t) 0 with
   | none => (c :: t, false)
   | some r => Lx.skipF N r
  else (c :: t, true)
theorem Lx.skipF_eq : ∀ (N : Nat) (l : List UInt8), l.length < N → Lx.skip l = Lx.skipF N l
 | 0, l, h => by omega
 | N + 1, [], h => Lx.skip_nil
 | N + 1, c :: t, h => by
  unfold Lx.skipF
  cases hb : Lx.blank (c.toNat : Int) with
  | true => rw [if_pos rfl, Lx.skip_blank hb, Lx.skipF_eq N t (by simp at h; omega)]
  | false =>
   rw [if_neg (by simp)]
   cases ho : Lx.opens (c :: t) with
   | false => rw [if_neg (by simp), Lx.skip_stop hb ho]
   | true =>
    rw [if_pos rfl]
    cases hR : Lx.rem (c :: t) 0 with
    | none => exact Lx.skip_open ho hR
    | some r =>
     have := Lx.rem_lt _ _ _ hR
     rw [Lx.skip_rem ho hR, Lx.skipF_eq N r (by simp at h this; omega)]
def Lx.lexF : Nat → List UInt8 → Lx.Res
 | c, l =>
 let s := Lx.skipF (l.length + 1) l
 if s.2 = false then .bad s.1.length 10
 else if s.1 = [] then .good []
 else match Lx.next s.1 with
  | .bad e => .bad s.1.length e
  | .good k n => match c with
   | 0 => .bad s.1.length 3
   | c + 1 => (Lx.lexF c (s.1.drop (Lx.text s.1).length)).put ⟨k, Lx.text s.1, n, s.1.length⟩
theorem Lx.lexF_unf (c : Nat) (l : List UInt8) : Lx.lexF c l = if (Lx.skipF (l.length + 1) l).2 = false then .bad (Lx.skipF (l.length + 1) l).1.length 10
 else if (Lx.skipF (l.length + 1) l).1 = [] then .good []
 else match Lx.next (Lx.skipF (l.length + 1) l).1 with
  | .bad e => .bad (Lx.skipF (l.length + 1) l).1.length e
  | .good k n => match c with
   | 0 => .bad (Lx.skipF (l.length + 1) l).1.length 3
   | c + 1 => (Lx.lexF c ((Lx.skipF (l.length + 1) l).1.drop (Lx.text (Lx.skipF (l.length + 1) l).1).length)).put ⟨k, Lx.text (Lx.skipF (l.length + 1) l).1, n, (Lx.skipF (l.length + 1) l).1.length⟩ := by cases c <;> rw [Lx.lexF]
theorem Lx.lexF_eq : ∀ (c : Nat) (l : List UInt8), Lx.lexN c l = Lx.lexF c l
 | 0, l => by
  rw [Lx.lexN_eq, Lx.skipF_eq (l.length + 1) l (by omega), Lx.lexF_unf]
  generalize Lx.skipF (l.length + 1) l = S
  by_cases h1 : S.2 = false
  ·
   rw [if_pos h1, if_pos h1]
  ·
   rw [if_neg h1, if_neg h1]
   by_cases h2 : S.1 = []
   ·
    rw [if_pos h2, if_pos h2]
   ·
    rw [if_neg h2, if_neg h2]
    cases Lx.next S.1 with
    | bad e => rfl
    | good k n => rfl
 | c + 1, l => by
  rw [Lx.lexN_eq, Lx.skipF_eq (l.length + 1) l (by omega), Lx.lexF_unf]
  generalize Lx.skipF (l.length + 1) l = S
  by_cases h1 : S.2 = false
  ·
   rw [if_pos h1, if_pos h1]
  ·
   rw [if_neg h1, if_neg h1]
   by_cases h2 : S.1 = []
   ·
    rw [if_pos h2, if_pos h2]
   ·
    rw [if_neg h2, if_neg h2]
    cases Lx.next S.1 with
    | bad e => rfl
    | good k n => show Lx.Res.put _ (Lx.lexN c _) = Lx.Res.put _ (Lx.lexF c _); rw [Lx.lexF_eq c]

def Lx.al1 : List UInt8 := [118, 97, 108, 32, 120, 32, 61, 32, 70, 40, 77, 41, 46, 121, 32, 40, 42, 32, 114, 32, 40, 42, 32, 115, 32, 42, 41, 32, 42, 41]
def Lx.al2 : List UInt8 := [97, 32, 35, 32, 98]
def Lx.al1T : List Lx.Tok := [⟨3, [118, 97, 108], 0, 30⟩, ⟨1, [120], 0, 26⟩, ⟨6, [61], 0, 24⟩, ⟨2, [70], 0, 22⟩, ⟨6, [40], 0, 21⟩, ⟨2, [77], 0, 20⟩, ⟨6, [41], 0, 19⟩, ⟨6, [46], 0, 18⟩, ⟨1, [121], 0, 17⟩]
theorem Lx.al1_lex : Lx.lex Lx.al1 = .good Lx.al1T := by
 have h : Lx.lexN 9 Lx.al1 = .good Lx.al1T := by rw [Lx.lexF_eq]; kernel_rfl
 unfold Lx.lex
 rw [if_neg (by decide)]
 exact Lx.lexN_mono h (by decide)
theorem Lx.al2_lex : Lx.lex Lx.al2 = .bad 3 10 := by
 have h : Lx.lexN 1024 Lx.al2 = .bad 3 10 := by rw [Lx.lexF_eq]; kernel_rfl
 unfold Lx.lex
 rw [if_neg (by decide)]
 exact h
end Go.Proofs.YtjebepnphoeiaabGreatDoor
namespace Go.Proofs.YtjebepnphoeiaabGreatDoor
open Go.RowKit
set_option linter.unusedVariables false

def Toks (w : World) (v : Value) (S : Nat) (ts : List Lx.Tok) : Prop :=
 (v = .slice none 0 0 ∧ ts = []) ∨ ∃ g c, v = .slice (some ⟨g, 0, none⟩) ts.length c ∧ ts.length ≤ c ∧ g < w.heap.size ∧ ∀ j u, (ts.flatMap (Lx.cells S))[j]? = some u → w.cell? ⟨g, j, none⟩ = some u
theorem Lx.flat_len (S : Nat) (ts : List Lx.Tok) : (ts.flatMap (Lx.cells S)).length = ts.length * 4 := by
 induction ts with
 | nil => rfl
 | cons t ts ih => rw [List.flatMap_cons, List.length_append, ih, List.length_cons]; show 4 + _ = _; omega
theorem Lx.flat_at (S : Nat) : ∀ (ts : List Lx.Tok) (i : Nat) (t : Lx.Tok), ts[i]? = some t → ∀ k, k < 4 → (ts.flatMap (Lx.cells S))[4 * i + k]? = (Lx.cells S t)[k]?
 | [], i, t, h, k, hk => by cases i <;> cases h
 | a :: ts, 0, t, h, k, hk => by
  have : a = t := by simpa using h
  subst this
  rw [List.flatMap_cons, List.getElem?_append_left (by show 4 * 0 + k < 4; omega)]
  congr 1; omega
 | a :: ts, i + 1, t, h, k, hk => by
  rw [List.flatMap_cons, List.getElem?_append_right (by show 4 ≤ 4 * (i + 1) + k; omega)]
  show (ts.flatMap (Lx.cells S))[4 * (i + 1) + k - 4]? = _
  rw [show 4 * (i + 1) + k - 4 = 4 * i + k by omega]
  exact Lx.flat_at S ts i t (by simpa using h) k hk
theorem Toks.of_own {w : World} {B S : Nat} {v : Value} {ts : List Lx.Tok} (h : w.ownsRow B 77 4 v ts.length (ts.flatMap (Lx.cells S))) : Toks w v S ts := by
 rcases h.2 with ⟨hv, hn⟩ | ⟨g, cap, cur, hv, hb, hg, hle, rest⟩
 ·
  exact .inl ⟨hv, List.eq_nil_of_length_eq_zero hn⟩
 ·
  refine .inr ⟨g, cap, hv, hle, (Array.getElem?_eq_some_iff.1 hg).1, fun j u hu => ?_⟩
  have hj : j < ts.length * 4 := by
   rcases Nat.lt_or_ge j (ts.length * 4) with h | h
   ·
    exact h
   ·
    rw [List.getElem?_eq_none (by rw [Lx.flat_len]; exact h)] at hu; cases hu
  subst hv
  rw [h.cellAt j hj]; exact hu
theorem Toks.below {w w' : World} {v : Value} {S : Nat} {ts : List Lx.Tok} (h : Toks w v S ts) (hb : Below w.heap.size w w') : Toks w' v S ts := by
 rcases h with h | ⟨g, c, hv, hc, hg, h⟩
 ·
  exact .inl h
 ·
  exact .inr ⟨g, c, hv, hc, Nat.lt_of_lt_of_le hg hb.size, fun j u hu => (hb.cell hg).trans (h j u hu)⟩
theorem Toks.form {w : World} {v : Value} {S : Nat} {ts : List Lx.Tok} (h : Toks w v S ts) : ∃ a c, v = .slice a ts.length c := by
 rcases h with ⟨rfl, rfl⟩ | ⟨g, c, rfl, -⟩
 ·
  exact ⟨_, _, rfl⟩
 ·
  exact ⟨_, _, rfl⟩
def Er (w : World) : Prop := ∃ ev, w.cell? ⟨1, 0, none⟩ = some ev ∧ (ev = .nilIface ∨ ∃ te pe, ev = .iface te pe)
theorem Er.below {w w' : World} {B : Nat} (h : Er w) (hB : Below B w w') (hw : w.heap.size ≤ B) : Er w' := by
 obtain ⟨ev, h1, h2⟩ := h
 exact ⟨ev, (hB.cell (Nat.lt_of_lt_of_le (lxLt h1) hw)).trans h1, h2⟩
theorem lxLex_er (s : ByteArray) (hs : s.size ≤ maxLen) (w : World) (h : Er w) :
  Calls Tryz.prog 29 #[.string s] w fun e w' => LexAns (Lx.lex s.data.toList) s.size w.heap.size e w' ∧ Below w.heap.size w w' := by
 obtain ⟨ev, h1, h2⟩ := h
 exact lxLex_any s hs w ev h1 h2
theorem lxLex_good (s : ByteArray) (hs : s.size ≤ maxLen) (w : World) (h : Er w) {ts : List Lx.Tok} (hl : Lx.lex s.data.toList = .good ts) :
  Calls Tryz.prog 29 #[.string s] w fun e w' => (∃ v, e = .returned (.tuple #[v, .int .i64 0, .int .i64 0]) ∧ w'.ownsRow w.heap.size 77 4 v ts.length (ts.flatMap (Lx.cells s.size))) ∧ Below w.heap.size w w' := by
 refine (lxLex_er s hs w h).mono ?_
 rintro e w' ⟨ha, hb⟩
 rw [hl] at ha
 exact ⟨ha, hb⟩
theorem lxLex_bad (s : ByteArray) (hs : s.size ≤ maxLen) (w : World) (h : Er w) {n : Nat} {c : Int} (hl : Lx.lex s.data.toList = .bad n c) :
  Calls Tryz.prog 29 #[.string s] w fun e w' => e = .returned (.tuple #[.slice none 0 0, .int .i64 ((s.size - n : Nat) : Int), .int .i64 c]) ∧ Below w.heap.size w w' := by
 refine (lxLex_er s hs w h).mono ?_
 rintro e w' ⟨ha, hb⟩
 rw [hl] at ha
 exact ⟨ha, hb⟩

end Go.Proofs.YtjebepnphoeiaabGreatDoor
