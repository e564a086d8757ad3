/- What the program's Lex comes to: the tokens of a text, or the first place where it has none. -/
import Derived.OwnWalk
import Derived.Laws.OwnMore
import Derived.Test.YtfjcnncpmhfbnaaDoorLexRead
namespace Go.Proofs.YtfjcnncpmhfbnaaDoor
open Go.RowKit
set_option linter.unusedVariables false

theorem own_below {w w' : World} {base : Nat} {e : TypeId} {size : Nat} {v : Value} {n : Nat} {xs : List Value} (h : w.ownsRow base e size v n xs) (hb : Below w.heap.size w w') : w'.ownsRow base e size v n xs :=
  h.kept (row := none) ⟨hb.os, hb.tape, hb.output, hb.size, fun k hk _ => hb.block k hk⟩ (by cases hv : v.ownBlock <;> simp)
theorem lxTr {w a b : World} (h : Below w.heap.size w a) (k : Below a.heap.size a b) : Below w.heap.size w b := h.trans (k.mono h.size)
theorem lxBlock {w : World} {base : Nat} {e : TypeId} {size : Nat} {v : Value} {n : Nat} {xs : List Value} (h : w.ownsRow base e size v n xs) : ∀ j, v.ownBlock = some j → base ≤ j := fun j ej => (h.lt j ej).1
theorem own_form {w : World} {base : Nat} {e : TypeId} {size : Nat} {v : Value} {n : Nat} {xs : List Value} (h : w.ownsRow base e size v n xs) : ∃ a c, v = .slice a n c := by
  rcases h.2 with ⟨rfl, hn⟩ | ⟨g, cap, cur, rfl, rest⟩
  · exact ⟨none, 0, by rw [hn]⟩
  · exact ⟨_, _, rfl⟩
theorem own_ne {w : World} {base : Nat} {e : TypeId} {size : Nat} {v : Value} {n : Nat} {xs : List Value} (h : w.ownsRow base e size v n xs) : some w.heap.size ≠ v.ownBlock := fun e => by
  have := (h.lt _ e.symm).2; omega
theorem info_tok : (Tryd.prog.info? 39).map (fun i => (i.zero, i.size, i.bytes)) = some (some (.agg #[.int .i64 0, .string ⟨#[]⟩, .int .i64 0, .int .i64 0]), 4, 40) := by kernel_rfl
theorem cells_new (w : World) (a b c d : Value) (t : TypeId) : ∀ (j : Nat) (u : Value), [a, b, c, d][j]? = some u → (w.alloc (.cells #[a, b, c, d] t)).cell? ((⟨w.heap.size, 0, none⟩ : Addr).add j) = some u := by
  intro j u h
  match j, h with
  | 0, h => cases h; simp [go_sem, Addr.add]
  | 1, h => cases h; simp [go_sem, Addr.add]
  | 2, h => cases h; simp [go_sem, Addr.add]
  | 3, h => cases h; simp [go_sem, Addr.add]
  | j + 4, h => simp at h

/-- A token's cells in memory, in a text of S bytes. -/
def Lx.cells (S : Nat) (t : Lx.Tok) : List Value := [.int .i64 (t.kind : Int), .string ⟨t.text.toArray⟩, .int .i64 (t.n : Int), .int .i64 ((S - t.left : Nat) : Int)]
def Lx.Res.puts (pre : List Lx.Tok) : Lx.Res → Lx.Res
  | .bad n e => .bad n e
  | .good l => .good (pre ++ l)
theorem Lx.puts_nil (R : Lx.Res) : R.puts [] = R := by cases R <;> rfl
theorem Lx.puts_on (pre : List Lx.Tok) (t : Lx.Tok) (R : Lx.Res) : (R.put t).puts pre = R.puts (pre ++ [t]) := by
  cases R with
  | bad n e => rfl
  | good l => show Lx.Res.good _ = Lx.Res.good _; rw [List.append_assoc]; rfl
theorem Lx.skip_drop : ∀ (N : Nat) (l : List UInt8), l.length ≤ N → (Lx.skip l).1 = l.drop (l.length - (Lx.skip l).1.length)
  | N, [], hN => by rw [Lx.skip_nil]; rfl
  | 0, c :: t, hN => by simp at hN
  | N + 1, c :: t, hN => by
    cases hb : Lx.blank (c.toNat : Int) with
    | true =>
      rw [Lx.skip_blank hb]
      have h1 := Lx.skip_drop N t (by simp at hN; omega)
      have h2 := Lx.skip_len _ t (Nat.le_refl _)
      rw [List.length_cons, show t.length + 1 - (Lx.skip t).1.length = t.length - (Lx.skip t).1.length + 1 by omega, List.drop_succ_cons]
      exact h1
    | false =>
      cases ho : Lx.opens (c :: t) with
      | false => rw [Lx.skip_stop hb ho]; simp
      | true =>
        cases hR : Lx.rem (c :: t) 0 with
        | none => rw [Lx.skip_open ho hR]; simp
        | some r1 =>
          rw [Lx.skip_rem ho hR]
          have hlt := Lx.rem_lt _ _ _ hR
          have h1 := Lx.skip_drop N r1 (by simp at hN hlt; omega)
          have h2 := Lx.skip_len _ r1 (Nat.le_refl _)
          have h3 := Lx.rem_drop hR
          have e : ∀ m, r1.drop m = (c :: t).drop ((c :: t).length - r1.length + m) := fun m => by rw [← List.drop_drop, ← h3]
          rw [e, show (c :: t).length - r1.length + (r1.length - (Lx.skip r1).1.length) = (c :: t).length - (Lx.skip r1).1.length by omega] at h1
          exact h1
theorem Lx.bad_codes {l : List UInt8} {e : Int} (h : Lx.next l = .bad e) : e = 10 ∨ e = 1 ∨ e = 12 := by
  unfold Lx.next at h
  simp only at h
  split at h
  · cases h; exact .inl rfl
  · split at h
    · cases h
    · split at h
      · split at h
        · cases h
        · cases h; exact .inr (.inl rfl)
      · split at h
        · cases h; exact .inr (.inr rfl)
        · cases h

/-- What Lex hands back. -/
def LexAns (R : Lx.Res) (S B : Nat) (e : Ending) (w' : World) : Prop := match R with
  | .bad n c => e = .returned (.tuple #[.slice none 0 0, .int .i64 ((S - n : Nat) : Int), .int .i64 c])
  | .good ts => ∃ v, e = .returned (.tuple #[v, .int .i64 0, .int .i64 0]) ∧ w'.ownsRow B 39 4 v ts.length (ts.flatMap (Lx.cells S))
theorem LexAns.bad {R : Lx.Res} {S B n : Nat} {c : Int} (h : R = .bad n c) {p : Int} (hp : p = ((S - n : Nat) : Int)) (w' : World) : LexAns R S B (.returned (.tuple #[.slice none 0 0, .int .i64 p, .int .i64 c])) w' := by rw [h, hp]; rfl

set_option maxRecDepth 100000 in
set_option maxHeartbeats 4000000 in
theorem lxLex_any (s : ByteArray) (hs : s.size ≤ maxLen) (w : World) (ev : Value) (hv1 : w.cell? ⟨1, 0, none⟩ = some ev) (hev : ev = .nilIface ∨ ∃ te pe, ev = .iface te pe) :
    Calls Tryd.prog 9 #[.string s] w fun e w' => LexAns (Lx.lex s.data.toList) s.size w.heap.size e w' ∧ Below w.heap.size w w' := by
  unfold maxLen at hs
  by_cases hbig : 4096 < s.size
  · have H : Hid (Lx.lex s.data.toList = .bad s.size 3) := by show _ = _; unfold Lx.lex; rw [Nm.len, if_pos hbig]
    have hb0 : Hid (s.size - s.size = 0) := by show _ = _; omega
    have hb2 : (4096 : Int) < (s.size : Int) := by omega
    clear hbig hs
    go_enter Tryd.func9, Tryd.ntmps9
    go_wp2
    go_ret3
    exact ⟨LexAns.bad H.out (by rw [hb0.out]; rfl) _, Below.refl _ _⟩
  · have hs4 : s.size ≤ 4096 := by omega
    have H : Hid (Lx.lex s.data.toList = Lx.lexN 1024 s.data.toList) := by show _ = _; unfold Lx.lex; rw [Nm.len, if_neg hbig]
    obtain ⟨i0, hi, hz0, hz1, hz2⟩ := info_parts info_tok
    clear hs
    go_enter Tryd.func9, Tryd.ntmps9
    go_wp2
    go_loopw [5, 6] (fun lv av wr => ∃ (pre : List Lx.Tok) (k : Nat), av = .int .i64 k ∧ k ≤ s.size ∧ pre.length ≤ 1024 ∧ Hid (Lx.lexN 1024 s.data.toList = (Lx.lexN (1024 - pre.length) (s.data.toList.drop k)).puts pre) ∧ wr.ownsRow w.heap.size 39 4 lv pre.length (pre.flatMap (Lx.cells s.size)) ∧ Below w.heap.size w wr) (fun _ av _ => s.size - (intOf av).toNat)
    case atStart => exact ⟨[], 0, rfl, Nat.zero_le _, Nat.zero_le _, (Lx.puts_nil _).symm, World.ownsRow_nil _ _ _ _, Below.refl _ _⟩
    case round =>
      obtain ⟨pre, k, rfl, hk, hpl, hx, hrow, hB⟩ := hrel
      have hx2 := hx.out
      rw [Lx.lexN_eq (1024 - pre.length)] at hx2
      have hz := Lx.rest_size s k
      have hz4 : (s.extract k s.size).size ≤ 4096 := by rw [hz]; omega
      have hsk := lxSkip_any (s.extract k s.size) hz4
      rw [hz, Lx.rest] at hsk
      have hlen := Lx.skip_len _ (s.data.toList.drop k) (Nat.le_refl _)
      have hdrop := Lx.skip_drop _ (s.data.toList.drop k) (Nat.le_refl _)
      rw [List.length_drop, Nm.len] at hlen hdrop
      rw [List.drop_drop, show k + (s.size - k - (Lx.skip (s.data.toList.drop k)).1.length) = s.size - (Lx.skip (s.data.toList.drop k)).1.length by omega] at hdrop
      generalize hq : Lx.skip (s.data.toList.drop k) = q at *
      obtain ⟨r, ok⟩ := q
      simp only at hx2 hlen hdrop hsk
      clear hx hq hz hz4
      obtain ⟨a, ha⟩ : ∃ a, a = s.size - r.length := ⟨_, rfl⟩
      have hg : s.size - k - r.length = a - k := by omega
      have hka : k ≤ a := by omega
      have haS : a ≤ s.size := by omega
      have hka2 : (k : Int) + ((a - k : Nat) : Int) = (a : Int) := by omega
      have hra : r.length = s.size - a := by omega
      rw [← ha] at hdrop
      rw [hg] at hsk
      rw [hra] at hx2
      clear hg hlen ha
      cases ok with
      | false =>
        rw [if_pos rfl] at hx2
        have HX : Hid (Lx.lex s.data.toList = .bad (s.size - a) 10) := by show _ = _; rw [H.out, hx2]; rfl
        clear hx2 H
        go_wp2_with (go_at_call 18; refine (hsk _).mono ?_; rintro e w1 ⟨rfl, hw1⟩; rw [hw1]; clear hw1 w1)
        go_ret3
        exact ⟨LexAns.bad HX.out (by omega) _, hB⟩
      | true =>
        rw [if_neg (by simp)] at hx2
        by_cases haE : a = s.size
        · have hr0 : r = [] := List.eq_nil_of_length_eq_zero (by omega)
          rw [if_pos hr0] at hx2
          have HX : Hid (Lx.lex s.data.toList = .good pre) := by show _ = _; rw [H.out, hx2]; show Lx.Res.good (pre ++ []) = _; rw [List.append_nil]
          subst haE
          clear hx2 H hdrop hr0
          go_wp2_with (go_at_call 18; refine (hsk _).mono ?_; rintro e w1 ⟨rfl, hw1⟩; rw [hw1]; clear hw1 w1)
          go_ret3
          refine ⟨?_, hB⟩
          rw [HX.out]
          exact ⟨_, rfl, hrow⟩
        · have hr1 : ¬ r = [] := fun e => by rw [e] at hra; simp at hra; omega
          rw [if_neg hr1] at hx2
          have haL : a < s.size := by omega
          have hz := Lx.rest_size s a
          have hrd := fun w2 h => lxRead_any (s.extract a s.size) (by rw [hz]; omega) (by rw [hz]; omega) w2 ev h hev
          rw [Lx.rest, ← hdrop] at hrd
          have hv2 : ∀ {W : World}, Below w.heap.size w W → W.cell? ⟨1, 0, none⟩ = some ev := fun h => (h.cell (lxLt hv1)).trans hv1
          cases hn : Lx.next r with
          | bad c =>
            rw [hn] at hx2
            have HX : Hid (Lx.lex s.data.toList = .bad (s.size - a) c) := by show _ = _; rw [H.out, hx2]; rfl
            have hc := Lx.bad_codes hn
            have hnv : Lx.nextV r = .tuple #[.agg #[.int .i64 0, .string ⟨#[]⟩, .int .i64 0, .int .i64 0], .int .i64 c] := by unfold Lx.nextV; rw [hn]
            rw [hnv] at hrd
            clear hx2 H hdrop hr1 hn hnv hz haE
            rcases hc with rfl | rfl | rfl
            · go_wp2_with (first | (go_at_call 18; refine (hsk _).mono ?_; rintro e w1 ⟨rfl, hw1⟩; rw [hw1]; clear hw1 w1) | (go_at_call 19; refine (hrd _ (hv2 hB)).mono ?_; rintro e w2 ⟨rfl, hb2⟩))
              go_ret3
              exact ⟨LexAns.bad HX.out (by omega) _, lxBa (lxTr hB hb2) _⟩
            · go_wp2_with (first | (go_at_call 18; refine (hsk _).mono ?_; rintro e w1 ⟨rfl, hw1⟩; rw [hw1]; clear hw1 w1) | (go_at_call 19; refine (hrd _ (hv2 hB)).mono ?_; rintro e w2 ⟨rfl, hb2⟩))
              go_ret3
              exact ⟨LexAns.bad HX.out (by omega) _, lxBa (lxTr hB hb2) _⟩
            · go_wp2_with (first | (go_at_call 18; refine (hsk _).mono ?_; rintro e w1 ⟨rfl, hw1⟩; rw [hw1]; clear hw1 w1) | (go_at_call 19; refine (hrd _ (hv2 hB)).mono ?_; rintro e w2 ⟨rfl, hb2⟩))
              go_ret3
              exact ⟨LexAns.bad HX.out (by omega) _, lxBa (lxTr hB hb2) _⟩
          | good kd n =>
            rw [hn] at hx2
            have hnv : Lx.nextV r = .tuple #[.agg #[.int .i64 kd, .string ⟨(Lx.text r).toArray⟩, .int .i64 n, .int .i64 0], .int .i64 0] := by unfold Lx.nextV; rw [hn]
            rw [hnv] at hrd
            obtain ⟨g, cap, hform⟩ := own_form hrow
            subst hform
            by_cases hfull : pre.length = 1024
            · rw [hfull] at hx2
              have HX : Hid (Lx.lex s.data.toList = .bad (s.size - a) 3) := by show _ = _; rw [H.out, hx2]; rfl
              clear hx2 H hdrop hr1 hn hnv hz haE
              go_wp2_with (first | (go_at_call 18; refine (hsk _).mono ?_; rintro e w1 ⟨rfl, hw1⟩; rw [hw1]; clear hw1 w1) | (go_at_call 19; refine (hrd _ (hv2 hB)).mono ?_; rintro e w2 ⟨rfl, hb2⟩))
              go_ret3
              exact ⟨LexAns.bad HX.out (by omega) _, lxBa (lxTr hB hb2) _⟩
            · have hc1 : 1024 - pre.length = (1024 - (pre.length + 1)) + 1 := by omega
              rw [hc1] at hx2
              simp only at hx2
              rw [Lx.puts_on, hdrop, List.drop_drop, ← hdrop] at hx2
              have hk1 := Lx.next_kind hn
              have htp := Lx.text_pos r hk1.1
              have htl : (Lx.text r).length ≤ s.size - a := by
                have := congrArg List.length (Lx.text_pre r)
                rw [List.length_append, hra] at this; omega
              have hts : (⟨(Lx.text r).toArray⟩ : ByteArray).size = (Lx.text r).length := by
                show (Lx.text r).toArray.size = _; simp
              generalize hT : (⟨(Lx.text r).toArray⟩ : ByteArray) = T at *
              have HX : Hid (Lx.lexN 1024 s.data.toList = (Lx.lexN (1024 - (pre ++ [(⟨kd, Lx.text r, n, s.size - a⟩ : Lx.Tok)]).length) (s.data.toList.drop (a + T.size))).puts (pre ++ [(⟨kd, Lx.text r, n, s.size - a⟩ : Lx.Tok)])) := by
                show _ = _
                rw [List.length_append, hts]; exact hx2
              have HC : Hid ((pre ++ [(⟨kd, Lx.text r, n, s.size - a⟩ : Lx.Tok)]).flatMap (Lx.cells s.size) = pre.flatMap (Lx.cells s.size) ++ [.int .i64 (kd : Int), .string T, .int .i64 (n : Int), .int .i64 (a : Int)]) := by
                show _ = _
                rw [List.flatMap_append]
                show _ ++ (Lx.cells s.size _ ++ []) = _
                rw [List.append_nil]
                unfold Lx.cells
                rw [hT, show s.size - (s.size - a) = a by omega]
              have ht1 : 1 ≤ T.size := by omega
              have ht2 : a + T.size ≤ s.size := by omega
              clear hx2 H hdrop hr1 hn hnv hz haE hk1 htp htl hts hT hc1
              go_wp2_with (first
                | (go_at_call 18; refine (hsk _).mono ?_; rintro e w1 ⟨rfl, hw1⟩; rw [hw1]; clear hw1 w1)
                | (go_at_call 19; refine (hrd _ (hv2 hB)).mono ?_; rintro e w2 ⟨rfl, hb2⟩; have hrow2 := own_below hrow hb2; have hB2 := lxTr hB hb2)
                | (at_builtin; refine wpList_append_own _ rfl _ _ 22 rfl w.heap.size 39 i0 (.agg #[.int .i64 0, .string ⟨#[]⟩, .int .i64 0, .int .i64 0]) 4 40 Tryd.underlying22 hi hz0 hz1 hz2 rfl (by decide) _ _ _ rfl ((hrow2.alloc _).alloc _) ⟨w2.heap.size + 1, 0, none⟩ 1 1 [.int .i64 (kd : Int), .string T, .int .i64 (n : Int), .int .i64 (a : Int)] rfl rfl (by simpa using cells_new (w2.alloc _) _ _ _ _ _) (by simp [Value.oneCell']) (by unfold maxLen; omega) (by omega) (by have := hB2.size; simp; omega) ?_; intro v' w3 hown' hgrow _; have ht3 : w3.cell? ⟨w2.heap.size, 1, none⟩ = some (.string T) := hgrow.cell (by simp [go_sem]) (own_ne hrow2)))
              go_roundw
              case rel => exact ⟨pre ++ [(⟨kd, Lx.text r, n, s.size - a⟩ : Lx.Tok)], a + T.size, by go_num, ht2, by rw [List.length_append]; show pre.length + 1 ≤ 1024; omega, HX, by rw [HC.out, List.length_append]; exact hown', (lxBa (lxBa hB2 _) _).grown hgrow (by have := hB2.size; simp; omega) (lxBlock hrow)⟩
              case measure => simp [intOf]; omega
end Go.Proofs.YtfjcnncpmhfbnaaDoor
