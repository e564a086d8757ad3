/- The walk of LexSplits. -/
import Derived.Laws.AppendOwnNone
import Derived.Test.YtfjcnncpmhfbnaaDoorBlanksW
namespace Go.Proofs.YtfjcnncpmhfbnaaDoor
open Go.RowKit
set_option linter.unusedVariables false

theorem Tv.flat_len (ts : List Tv) : (ts.flatMap Tv.cells).length = ts.length * 4 := by
  induction ts with
  | nil => rfl
  | cons t ts ih => rw [List.flatMap_cons, List.length_append, ih, List.length_cons]; show 4 + _ = _; omega
theorem Tv.flat_at : ∀ (ts : List Tv) (i : Nat) (t : Tv), ts[i]? = some t → ∀ k, k < 4 → (ts.flatMap Tv.cells)[4 * i + k]? = t.cells[k]?
  | [], i, t, h, k, hk => by cases i <;> cases h
  | a :: ts, 0, t, h, k, hk => by
    have : a = t := by simpa using h
    subst this
    rw [List.flatMap_cons, List.getElem?_append_left (by show 4 * 0 + k < 4; omega)]
    congr 1; omega
  | a :: ts, i + 1, t, h, k, hk => by
    rw [List.flatMap_cons, List.getElem?_append_right (by show 4 ≤ 4 * (i + 1) + k; omega)]
    show (ts.flatMap Tv.cells)[4 * (i + 1) + k - 4]? = _
    rw [show 4 * (i + 1) + k - 4 = 4 * i + k by omega]
    exact Tv.flat_at ts i t (by simpa using h) k hk
theorem Lx.flat_tv (S : Nat) (ts : List Lx.Tok) : ts.flatMap (Lx.cells S) = (ts.map (Lx.tv S)).flatMap Tv.cells := by
  induction ts with
  | nil => rfl
  | cons t ts ih => rw [List.flatMap_cons, List.map_cons, List.flatMap_cons, ih]; rfl
theorem TvAt.of_rows {w : World} {B : Nat} {v : Value} {ts : List Tv} (h : w.ownsRow B 39 4 v ts.length (ts.flatMap Tv.cells)) : TvAt w v ts := by
  rcases h.2 with ⟨hv, hn⟩ | ⟨g, cap, cur, hv, hb, hg, hle, rest⟩
  · exact .inl ⟨List.eq_nil_of_length_eq_zero hn, _, _, hv⟩
  · refine .inr ⟨g, 0, cap, hv, (Array.getElem?_eq_some_iff.1 hg).1, fun i t ht => ?_⟩
    have hi : i < ts.length := (List.getElem?_eq_some_iff.1 ht).1
    subst hv
    have hf := Tv.flat_at ts i t ht
    have e : 0 + i * 4 = 4 * i + 0 := by omega
    rw [e]
    exact ⟨(h.cellAt _ (by omega)).trans (hf 0 (by decide)), (h.cellAt _ (by omega)).trans (hf 1 (by decide)), (h.cellAt _ (by omega)).trans (hf 2 (by decide)), (h.cellAt _ (by omega)).trans (hf 3 (by decide))⟩
theorem Tv.one : ∀ (ts : List Tv) (u : Value), u ∈ ts.flatMap Tv.cells → u.oneCell' = true := by
  intro ts u hu
  obtain ⟨t, -, ht⟩ := List.mem_flatMap.1 hu
  simp [Tv.cells] at ht
  rcases ht with rfl | rfl | rfl | rfl <;> rfl
/-- The cells of tokens that lie in a row of their own. -/
theorem Tv.src {w : World} {B : Nat} {g c : Nat} {ts : List Tv} (h : w.ownsRow B 39 4 (.slice (some ⟨g, 0, none⟩) ts.length c) ts.length (ts.flatMap Tv.cells)) :
    ∀ j u, (ts.flatMap Tv.cells)[j]? = some u → w.cell? ((⟨g, 0, none⟩ : Addr).add j) = some u := by
  intro j u hu
  have hj : j < ts.length * 4 := by
    rcases Nat.lt_or_ge j (ts.length * 4) with h | h
    · exact h
    · rw [List.getElem?_eq_none (by rw [Tv.flat_len]; exact h)] at hu; cases hu
  have := h.cellAt j hj
  rw [show (⟨g, 0, none⟩ : Addr).add j = ⟨g, j, none⟩ by simp [Addr.add]; omega, this]; exact hu
theorem wpList_append_want {P : Program} {w : World} {ops : Array Oper} {rest : List Oper} {o : Oper} {a : Act} {Q : Exit → Act → World → Prop} (hw : Region.wanted o (yielded ops a.tmps) = true) (s x : Operand) (t : TypeId)
    (ho : o.op = .call { callee := .builtin .append, args := #[s, x], argTypes := #[t, t] })
    (base : Nat) (e : TypeId) (i : TypeInfo) (z : Value) (size bytes : Nat) (ht : P.underlying t = some (.slice e)) (hi : P.info? e = some i) (hz : i.zero = some z)
    (hsize : i.size = size) (hby : i.bytes = bytes) (hzs : z.cells.size = size) (hsz : 0 < size)
    (v : Value) (n : Nat) (xs : List Value) (hs : a.eval s = v) (hown : w.ownsRow base e size v n xs)
    (ad : Addr) (m c : Nat) (news : List Value) (hx : a.eval x = .slice (some ad) m c) (hl : news.length = m * size) (hnews : ∀ j u, news[j]? = some u → w.cell? (ad.add j) = some u) (h1 : ∀ u ∈ news, u.oneCell' = true)
    (h63 : n + m ≤ maxLen) (hbytes : (n + m) * bytes ≤ 140737488355328) (hbase : base ≤ w.heap.size)
    (h : ∀ v' w', w'.ownsRow base e size v' (n + m) (xs ++ news) → w.grownBy w' v.ownBlock → wpList P ops Q rest (a.put o.dst v') w') : wpList P ops Q (o :: rest) a w :=
  wpList_step fun K hK => by
    rw [if_pos hw]
    exact wp_append_own w s x t ho base e i z size bytes ht hi hz hsize hby hzs hsz v n xs hs hown ad m c news hx hl hnews h1 h63 hbytes hbase fun v' w' h2 h3 _ => hK _ _ (h v' w' h2 h3)
theorem wpList_append_want_none {P : Program} {w : World} {ops : Array Oper} {rest : List Oper} {o : Oper} {a : Act} {Q : Exit → Act → World → Prop} (hw : Region.wanted o (yielded ops a.tmps) = true) (s x : Operand) (t : TypeId)
    (ho : o.op = .call { callee := .builtin .append, args := #[s, x], argTypes := #[t, t] })
    (base : Nat) (e : TypeId) (i : TypeInfo) (size : Nat) (ht : P.underlying t = some (.slice e)) (hi : P.info? e = some i)
    (v : Value) (n : Nat) (xs : List Value) (hs : a.eval s = v) (hown : w.ownsRow base e size v n xs) (hx : a.eval x = .slice none 0 0)
    (h : wpList P ops Q rest (a.put o.dst v) w) : wpList P ops Q (o :: rest) a w := by
  refine wpList_step fun K hK => ?_
  rw [if_pos hw]
  have hrun := run_append_owned_none (P := P) (w := w) base t o.type e i size ht hi v n xs hown
  unfold Oper.wp
  simp [execOp, ho, resolve, invoke, builtin, hs, hx, hrun, Result.andThen]
  exact hK _ _ h
theorem own_shape {w : World} {base : Nat} {e : TypeId} {size : Nat} {v : Value} {n : Nat} {xs : List Value} (h : w.ownsRow base e size v n xs) : (v = .slice none 0 0 ∧ n = 0) ∨ ∃ g c, v = .slice (some ⟨g, 0, none⟩) n c := by
  rcases h.2 with h | ⟨g, cap, cur, rfl, rest⟩
  · exact .inl h
  · exact .inr ⟨_, _, rfl⟩
theorem Lx.splits_same {A A' B : List Lx.Tok} (h : A'.map Lx.Tok.core = A.map Lx.Tok.core) (S1 S2 S3 : Nat) : Tv.same ((A' ++ B).map (Lx.tv S3)) (A.map (Lx.tv S1) ++ B.map (Lx.tv S2)) = true := by
  unfold Tv.same
  rw [decide_eq_true_iff, List.map_append, List.map_append, List.map_append]
  have e1 := Lx.core_tv h S1 S3
  have e2 := Lx.core_tv (rfl : B.map Lx.Tok.core = B.map Lx.Tok.core) S2 S3
  unfold Tv.same at e1 e2
  rw [decide_eq_true_iff] at e1 e2
  rw [e1, e2]

set_option maxRecDepth 100000 in
set_option maxHeartbeats 4000000 in
theorem splits_walk (s t : ByteArray) (hs : s.size ≤ 140737488351232) (ht : t.size ≤ 140737488351232) (w : World) (hE : Er w) :
    Calls Tryd.prog 8 #[.string s, .string t] w fun e w' => e = .returned (.bool true) ∧ Below w.heap.size w w' := by
  have hsm : s.size ≤ maxLen := by unfold maxLen; omega
  have htm : t.size ≤ maxLen := by unfold maxLen; omega
  have c2' := fun w h => lxLex_er t htm w h
  cases hR : Lx.lex s.data.toList with
  | bad n c =>
    have hc := Lx.lex_codes hR
    have c1 := lxLex_bad s hsm w hE hR
    have c3 : ∀ w, Er w → Calls Tryd.prog 9 #[.string t] w fun e w' => (∃ x y z, e = .returned (.tuple #[x, y, z])) ∧ Below w.heap.size w w' := fun w h => by
      refine (lxLex_er t htm w h).mono ?_
      rintro e w' ⟨ha, hb⟩
      refine ⟨?_, hb⟩
      cases hq : Lx.lex t.data.toList with
      | bad n c => rw [hq] at ha; exact ⟨_, _, _, ha⟩
      | good ts => rw [hq] at ha; obtain ⟨v, hv, -⟩ := ha; exact ⟨_, _, _, hv⟩
    clear hs ht hsm htm hR c2'
    go_enter Tryd.func8, Tryd.ntmps8
    go_wp2_with (first
      | (go_at_call 9; have _ := m1; refine (c3 _ (hE.below hb1 (Nat.le_refl _))).mono ?_; rintro e w2 ⟨⟨x, y, z, rfl⟩, hb2⟩)
      | (go_at_call 9; refine c1.mono ?_; rintro e w1 ⟨rfl, hb1⟩; have m1 := True.intro)
      | (go_at_call 11; refine (lxAlive_any _ (hE.below (lxTr hb1 hb2) (Nat.le_refl _))).mono ?_; rintro e w3 ⟨rfl, hb3⟩))
    go_ret
    exact ⟨rfl, lxTr (lxTr hb1 hb2) hb3⟩
  | good A =>
    obtain ⟨hL4, hlenA, hNA⟩ := Lx.lex_good hR
    have c1 := lxLex_good s hsm w hE hR
    cases hR2 : Lx.lex t.data.toList with
    | bad n c =>
      have hc := Lx.lex_codes hR2
      have c2 := fun w h => lxLex_bad t htm w h hR2
      clear hs ht hsm htm hR c2' hR2 hNA hL4 hlenA
      go_enter Tryd.func8, Tryd.ntmps8
      go_wp2_with (first
        | (go_at_call 9; have _ := m1; refine (c2 _ (hE.below hb1 (Nat.le_refl _))).mono ?_; rintro e w2 ⟨rfl, hb2⟩)
        | (go_at_call 9; refine c1.mono ?_; rintro e w1 ⟨⟨v, rfl, hrow⟩, hb1⟩; have m1 := True.intro)
        | (go_at_call 11; refine (lxAlive_any _ (hE.below (lxTr hb1 hb2) (Nat.le_refl _))).mono ?_; rintro e w3 ⟨rfl, hb3⟩))
      go_ret
      exact ⟨rfl, lxTr (lxTr hb1 hb2) hb3⟩
    | good B =>
      obtain ⟨hM4, hlenB, hNB⟩ := Lx.lex_good hR2
      have c2 := fun w h => lxLex_good t htm w h hR2
      rw [Nm.len] at hL4 hM4
      by_cases hbig : 4096 < s.size + 1 + t.size
      · clear hs ht hsm htm hR c2' hR2 hNA hNB
        go_enter Tryd.func8, Tryd.ntmps8
        go_wp2_with (first
          | (go_at_call 9; have _ := m1; refine (c2 _ (hE.below hb1 (Nat.le_refl _))).mono ?_; rintro e w2 ⟨⟨v2, rfl, hrow2⟩, hb2⟩)
          | (go_at_call 9; refine c1.mono ?_; rintro e w1 ⟨⟨v, rfl, hrow⟩, hb1⟩; have m1 := True.intro)
          | (go_at_call 11; refine (lxAlive_any _ (hE.below (lxTr hb1 hb2) (Nat.le_refl _))).mono ?_; rintro e w3 ⟨rfl, hb3⟩))
        go_ret
        exact ⟨rfl, lxTr (lxTr hb1 hb2) hb3⟩
      · by_cases hmany : 1024 < A.length + B.length
        · clear hs ht hsm htm hR c2' hR2 hNA hNB
          go_enter Tryd.func8, Tryd.ntmps8
          go_wp2_with (first
            | (go_at_call 9; have _ := m1; refine (c2 _ (hE.below hb1 (Nat.le_refl _))).mono ?_; rintro e w2 ⟨⟨v2, rfl, hrow2⟩, hb2⟩; obtain ⟨g2, cap2, hform2⟩ := own_form hrow2; subst hform2)
            | (go_at_call 9; refine c1.mono ?_; rintro e w1 ⟨⟨v, rfl, hrow⟩, hb1⟩; obtain ⟨g, cap, hform⟩ := own_form hrow; subst hform; have m1 := True.intro)
            | (go_at_call 11; refine (lxAlive_any _ (hE.below (lxTr hb1 hb2) (Nat.le_refl _))).mono ?_; rintro e w3 ⟨rfl, hb3⟩))
          go_ret
          exact ⟨rfl, lxTr (lxTr hb1 hb2) hb3⟩
        · obtain ⟨A', hcore, hAB⟩ := Lx.append_lex A 1024 s.data.toList hNA 10 t.data.toList B.length B (by decide) (Lx.lexN_mono hNB (Nat.le_refl _))
          have hcl := Lx.core_len hcore
          obtain ⟨u, hu⟩ : ∃ u : ByteArray, u = s ++ ⟨#[10]⟩ ++ t := ⟨_, rfl⟩
          have hul : u.data.toList = s.data.toList ++ 10 :: t.data.toList := by rw [hu, lxApp, lxApp]; simp
          have hus : u.size ≤ 4096 := by rw [Lx.size_of hul, List.length_append, List.length_cons, Nm.len, Nm.len]; omega
          have hlx : Lx.lex u.data.toList = .good (A' ++ B) := Lx.lex_of (by rw [Nm.len]; exact hus) (by rw [hul]; exact hAB) (by rw [List.length_append, hcl]; omega)
          have hum : u.size ≤ maxLen := by unfold maxLen; omega
          have c3 := fun w h => lxLex_good u hum w h hlx
          have hsame := Lx.splits_same (B := B) hcore s.size t.size u.size
          have hl1 : ((A' ++ B).map (Lx.tv u.size)).length ≤ maxLen := by rw [List.length_map, List.length_append, hcl]; unfold maxLen; omega
          have hl2 : (A.map (Lx.tv s.size) ++ B.map (Lx.tv t.size)).length ≤ maxLen := by rw [List.length_append, List.length_map, List.length_map]; unfold maxLen; omega
          obtain ⟨i0, hi, hz0, hz1, hz2⟩ := info_parts info_tok
          have hmany2 : A.length + B.length ≤ 1024 := by omega
          clear hs ht hsm htm hR c2' hR2 hNA hNB hcore hAB hcl hul hlx hum
          go_enter Tryd.func8, Tryd.ntmps8
          go_upto_region 6 with (first
            | (go_at_call 9; have _ := m2; rw [← hu]; refine (c3 _ (hE.below (lxTr hb1 hb2) (Nat.le_refl _))).mono ?_; rintro e w3 ⟨⟨v3, rfl, hrow3⟩, hb3⟩)
            | (go_at_call 9; have _ := m1; refine (c2 _ (hE.below hb1 (Nat.le_refl _))).mono ?_; rintro e w2 ⟨⟨v2, rfl, hrow2⟩, hb2⟩; obtain ⟨g2, cap2, hform2⟩ := own_form hrow2; subst hform2; have m2 := True.intro)
            | (go_at_call 9; refine c1.mono ?_; rintro e w1 ⟨⟨v, rfl, hrow⟩, hb1⟩; obtain ⟨g, cap, hform⟩ := own_form hrow; subst hform; have m1 := True.intro))
          have hA3 := own_below (own_below hrow hb2) hb3
          have hB3 := own_below hrow2 hb3
          have hmade := World.ownsRow_made (base := w3.heap.size) (e := 39) (size := 4) w3 #[] 0 (Nat.le_refl _) (by decide) rfl
          have hBw := lxTr (lxTr hb1 hb2) hb3
          rcases own_shape hA3 with ⟨hgA, hA0⟩ | ⟨gA, cA, hgA⟩
          · rcases own_shape hB3 with ⟨hgB, hB0⟩ | ⟨gB, cB, hgB⟩
            · obtain rfl : A = [] := List.eq_nil_of_length_eq_zero hA0
              injection hgA with e1 _ e2
              subst e1; subst e2
              obtain rfl : B = [] := List.eq_nil_of_length_eq_zero hB0
              injection hgB with e3 _ e4
              subst e3; subst e4
              go_wp2_with (first
                | (at_builtin; have _ := q1; refine wpList_append_want_none rfl _ _ 22 rfl w3.heap.size 39 i0 4 Tryd.underlying22 hi _ _ _ rfl hown5 rfl ?_; have hown6 := hown5; have hB6 := hB5)
                | (at_builtin; refine wpList_append_want_none rfl _ _ 22 rfl w3.heap.size 39 i0 4 Tryd.underlying22 hi _ _ _ rfl hmade rfl ?_; have q1 := True.intro; have hown5 := hmade; have hB5 : Below w3.heap.size w3 (w3.alloc (.cells #[] 39)) := (Below.refl _ _).alloc (Nat.le_refl _) _)
                | (go_at_call 16; refine (lxSame_any _ _ _ _ _ ((TvAt.of_own hrow3).below hB6 (Nat.le_refl _)) (TvAt.of_rows (ts := ([] : List Lx.Tok).map (Lx.tv s.size) ++ ([] : List Lx.Tok).map (Lx.tv t.size)) (by first | (rw [List.length_append, List.length_map, List.length_map, List.flatMap_append, ← Lx.flat_tv, ← Lx.flat_tv]; simpa using hown6) | (simpa [Lx.flat_tv] using hown6))) hl1 hl2).mono ?_; rw [hsame]; rintro e w7 ⟨rfl, hb7⟩)
                | (go_at_call 11; refine (lxAlive_any _ (hE.below (lxTr (lxTr hBw hB6) hb7) (Nat.le_refl _))).mono ?_; rintro e w8 ⟨rfl, hb8⟩))
              go_ret
              exact ⟨rfl, lxTr (lxTr (lxTr hBw hB6) hb7) hb8⟩
            · obtain rfl : A = [] := List.eq_nil_of_length_eq_zero hA0
              injection hgA with e1 _ e2
              subst e1; subst e2
              rw [hgB] at hB3
              injection hgB with e3 _ e4
              subst e3; subst e4
              go_wp2_with (first
                | (at_builtin; have _ := q1; refine wpList_append_want rfl _ _ 22 rfl w3.heap.size 39 i0 (.agg #[.int .i64 0, .string ⟨#[]⟩, .int .i64 0, .int .i64 0]) 4 40 Tryd.underlying22 hi hz0 hz1 hz2 rfl (by decide) _ _ _ rfl hown5 ⟨gB, 0, none⟩ B.length _ (B.flatMap (Lx.cells t.size)) rfl (Lx.flat_len _ _) (by rw [Lx.flat_tv]; exact Tv.src (by rw [← Lx.flat_tv, List.length_map]; exact own_below hB3 hB5)) (by rw [Lx.flat_tv]; exact Tv.one _) (by unfold maxLen; omega) (by omega) (by exact hB5.size) ?_; intro v6 w6 hown6 hgrow6; have hB6 : Below w3.heap.size w3 w6 := hB5.grown hgrow6 hB5.size (lxBlock hown5))
                | (at_builtin; refine wpList_append_want_none rfl _ _ 22 rfl w3.heap.size 39 i0 4 Tryd.underlying22 hi _ _ _ rfl hmade rfl ?_; have q1 := True.intro; have hown5 := hmade; have hB5 : Below w3.heap.size w3 (w3.alloc (.cells #[] 39)) := (Below.refl _ _).alloc (Nat.le_refl _) _)
                | (go_at_call 16; refine (lxSame_any _ _ _ _ _ ((TvAt.of_own hrow3).below hB6 (Nat.le_refl _)) (TvAt.of_rows (ts := ([] : List Lx.Tok).map (Lx.tv s.size) ++ B.map (Lx.tv t.size)) (by first | (rw [List.length_append, List.length_map, List.length_map, List.flatMap_append, ← Lx.flat_tv, ← Lx.flat_tv]; simpa using hown6) | (simpa [Lx.flat_tv] using hown6))) hl1 hl2).mono ?_; rw [hsame]; rintro e w7 ⟨rfl, hb7⟩)
                | (go_at_call 11; refine (lxAlive_any _ (hE.below (lxTr (lxTr hBw hB6) hb7) (Nat.le_refl _))).mono ?_; rintro e w8 ⟨rfl, hb8⟩))
              go_ret
              exact ⟨rfl, lxTr (lxTr (lxTr hBw hB6) hb7) hb8⟩
          · rcases own_shape hB3 with ⟨hgB, hB0⟩ | ⟨gB, cB, hgB⟩
            · rw [hgA] at hA3
              injection hgA with e1 _ e2
              subst e1; subst e2
              obtain rfl : B = [] := List.eq_nil_of_length_eq_zero hB0
              injection hgB with e3 _ e4
              subst e3; subst e4
              go_wp2_with (first
                | (at_builtin; have _ := q1; refine wpList_append_want_none rfl _ _ 22 rfl w3.heap.size 39 i0 4 Tryd.underlying22 hi _ _ _ rfl hown5 rfl ?_; have hown6 := hown5; have hB6 := hB5)
                | (at_builtin; refine wpList_append_want rfl _ _ 22 rfl w3.heap.size 39 i0 (.agg #[.int .i64 0, .string ⟨#[]⟩, .int .i64 0, .int .i64 0]) 4 40 Tryd.underlying22 hi hz0 hz1 hz2 rfl (by decide) _ _ _ rfl hmade ⟨gA, 0, none⟩ A.length _ (A.flatMap (Lx.cells s.size)) rfl (Lx.flat_len _ _) (by rw [Lx.flat_tv]; exact Tv.src (by rw [← Lx.flat_tv, List.length_map]; exact hA3.alloc _)) (by rw [Lx.flat_tv]; exact Tv.one _) (by unfold maxLen; omega) (by omega) (by simp) ?_; intro v5 w5 hown5 hgrow5; have q1 := True.intro; have hB5 : Below w3.heap.size w3 w5 := ((Below.refl _ _).alloc (Nat.le_refl _) _).grown hgrow5 (by simp) (lxBlock hmade))
                | (go_at_call 16; refine (lxSame_any _ _ _ _ _ ((TvAt.of_own hrow3).below hB6 (Nat.le_refl _)) (TvAt.of_rows (ts := A.map (Lx.tv s.size) ++ ([] : List Lx.Tok).map (Lx.tv t.size)) (by first | (rw [List.length_append, List.length_map, List.length_map, List.flatMap_append, ← Lx.flat_tv, ← Lx.flat_tv]; simpa using hown6) | (simpa [Lx.flat_tv] using hown6))) hl1 hl2).mono ?_; rw [hsame]; rintro e w7 ⟨rfl, hb7⟩)
                | (go_at_call 11; refine (lxAlive_any _ (hE.below (lxTr (lxTr hBw hB6) hb7) (Nat.le_refl _))).mono ?_; rintro e w8 ⟨rfl, hb8⟩))
              go_ret
              exact ⟨rfl, lxTr (lxTr (lxTr hBw hB6) hb7) hb8⟩
            · rw [hgA] at hA3
              injection hgA with e1 _ e2
              subst e1; subst e2
              rw [hgB] at hB3
              injection hgB with e3 _ e4
              subst e3; subst e4
              go_wp2_with (first
                | (at_builtin; have _ := q1; refine wpList_append_want rfl _ _ 22 rfl w3.heap.size 39 i0 (.agg #[.int .i64 0, .string ⟨#[]⟩, .int .i64 0, .int .i64 0]) 4 40 Tryd.underlying22 hi hz0 hz1 hz2 rfl (by decide) _ _ _ rfl hown5 ⟨gB, 0, none⟩ B.length _ (B.flatMap (Lx.cells t.size)) rfl (Lx.flat_len _ _) (by rw [Lx.flat_tv]; exact Tv.src (by rw [← Lx.flat_tv, List.length_map]; exact own_below hB3 hB5)) (by rw [Lx.flat_tv]; exact Tv.one _) (by unfold maxLen; omega) (by omega) (by exact hB5.size) ?_; intro v6 w6 hown6 hgrow6; have hB6 : Below w3.heap.size w3 w6 := hB5.grown hgrow6 hB5.size (lxBlock hown5))
                | (at_builtin; refine wpList_append_want rfl _ _ 22 rfl w3.heap.size 39 i0 (.agg #[.int .i64 0, .string ⟨#[]⟩, .int .i64 0, .int .i64 0]) 4 40 Tryd.underlying22 hi hz0 hz1 hz2 rfl (by decide) _ _ _ rfl hmade ⟨gA, 0, none⟩ A.length _ (A.flatMap (Lx.cells s.size)) rfl (Lx.flat_len _ _) (by rw [Lx.flat_tv]; exact Tv.src (by rw [← Lx.flat_tv, List.length_map]; exact hA3.alloc _)) (by rw [Lx.flat_tv]; exact Tv.one _) (by unfold maxLen; omega) (by omega) (by simp) ?_; intro v5 w5 hown5 hgrow5; have q1 := True.intro; have hB5 : Below w3.heap.size w3 w5 := ((Below.refl _ _).alloc (Nat.le_refl _) _).grown hgrow5 (by simp) (lxBlock hmade))
                | (go_at_call 16; refine (lxSame_any _ _ _ _ _ ((TvAt.of_own hrow3).below hB6 (Nat.le_refl _)) (TvAt.of_rows (ts := A.map (Lx.tv s.size) ++ B.map (Lx.tv t.size)) (by first | (rw [List.length_append, List.length_map, List.length_map, List.flatMap_append, ← Lx.flat_tv, ← Lx.flat_tv]; simpa using hown6) | (simpa [Lx.flat_tv] using hown6))) hl1 hl2).mono ?_; rw [hsame]; rintro e w7 ⟨rfl, hb7⟩)
                | (go_at_call 11; refine (lxAlive_any _ (hE.below (lxTr (lxTr hBw hB6) hb7) (Nat.le_refl _))).mono ?_; rintro e w8 ⟨rfl, hb8⟩))
              go_ret
              exact ⟨rfl, lxTr (lxTr (lxTr hBw hB6) hb7) hb8⟩
end Go.Proofs.YtfjcnncpmhfbnaaDoor
