/- The document's own: level, with, Put1, free, FreeTypes; Ints. -/
import Derived.Test.YtfeppchgmobfpaaGreatDoorTgR1
import Derived.Test.YtfeppchgmobfpaaGreatDoorTgX3
namespace Go.Proofs.YtfeppchgmobfpaaGreatDoor
open Go.RowKit
set_option linter.unusedVariables false
set_option linter.unusedSimpArgs false

/-- What is bound, from the outermost on, as surroundings. -/
def envOf (B : List Int) : List (Int × Int) := B.foldl (fun e x => (x, (e.length : Int)) :: e) []
theorem envOf_snoc (B : List Int) (x : Int) : envOf (B ++ [x]) = (x, ((envOf B).length : Int)) :: envOf B := by unfold envOf; rw [List.foldl_append]; rfl
theorem envOf_len (B : List Int) : (envOf B).length = B.length := by
  have key : ∀ (B : List Int) (e : List (Int × Int)), (B.foldl (fun e x => (x, (e.length : Int)) :: e) e).length = e.length + B.length := by
    intro B
    induction B with
    | nil => intro e; rfl
    | cons x r ih => intro e; rw [List.foldl_cons, ih, List.length_cons, List.length_cons]; omega
  have := key B []
  simpa [envOf] using this
theorem envOf_pos : ∀ (n : Nat) (B : List Int) (x j : Int), B.length = n → lk (envOf B) x = some j → 0 ≤ j
  | 0, B, x, j, hl, h => by rw [List.eq_nil_of_length_eq_zero hl] at h; cases h
  | n + 1, B, x, j, hl, h => by
    have hne : B ≠ [] := fun e => by rw [e] at hl; cases hl
    rw [← List.dropLast_concat_getLast hne, envOf_snoc, lk_cons] at h
    split at h
    · injection h with h; rw [← h]; omega
    · exact envOf_pos n B.dropLast x j (by rw [List.length_dropLast]; omega) h
abbrev IT : TypeId := 3
/-- A list of numbers of its own. -/
def Ow (w : World) (v : Value) (l : List Int) : Prop := ∃ g, w.ownsRow g IT 1 v l.length (l.map (.int .i64))
theorem Ow.below {w w' : World} {v : Value} {l : List Int} (h : Ow w v l) (hb : Below w.heap.size w w') : Ow w' v l := by
  obtain ⟨g, h⟩ := h
  exact ⟨g, own_block h (fun b q => hb.block b (h.lt b q).2)⟩
theorem Ow.nil (w : World) : Ow w (.slice none 0 0) [] := ⟨0, World.ownsRow_nil _ _ _ _⟩
theorem Ow.form {w : World} {v : Value} {l : List Int} (h : Ow w v l) : ∃ a c, v = .slice a l.length c ∧ l.length ≤ maxLen ∧ (l.length ≤ c) ∧ ∀ (j : Nat) x, l[j]? = some x → ∃ g, a = some ⟨g, 0, none⟩ ∧ w.cell? ⟨g, j, none⟩ = some (.int .i64 x) := by
  obtain ⟨g, h⟩ := h
  rcases h.2 with ⟨rfl, h0⟩ | ⟨b, cap, cur, rfl, hb, hc, hn, hm, hs, ht⟩
  · rw [h0]
    refine ⟨_, _, rfl, Nat.zero_le _, Nat.le_refl _, fun j x hx => ?_⟩
    rw [List.eq_nil_of_length_eq_zero h0] at hx
    simp at hx
  · refine ⟨_, _, rfl, Nat.le_trans hn hm, hn, fun j x hx => ⟨b, rfl, ?_⟩⟩
    exact h.cells (g := b) rfl j _ (by rw [List.getElem?_map, hx]; rfl) |> fun q => by rw [addr_add', Nat.zero_add] at q; exact q
theorem Ow.ls {w : World} {v : Value} {l : List Int} (h : Ow w v l) : Ls w Any v l := by
  obtain ⟨g, h⟩ := h
  rcases Ls.of_own h with ⟨b, o, c, h1, -, h2⟩ | h1
  · exact .inl ⟨b, o, c, h1, trivial, h2⟩
  · exact .inr h1
theorem info_int : (Tryz.prog.info? 3).map (fun i => (i.zero, i.size, i.bytes)) = some (some (.int .i64 0), 1, 8) := by kernel_rfl

set_option maxHeartbeats 1000000 in
set_option maxRecDepth 100000 in
theorem level_any (w : World) (v : Value) (B : List Int) (n : Int) (h : Ow w v B) : Calls Tryz.prog 57 #[v, .int .i64 n] w fun e w' => e = .returned (.int .i64 ((lk (envOf B) n).getD (-1))) ∧ w' = w := by
  obtain ⟨a, c, rfl, hm, hcap, hC⟩ := h.form
  have hm : B.length ≤ 9223372036854775807 := hm
  have HC := hid hC
  have hw : IntKind.i64.wrap ((B.length : Int) - 1) = (B.length : Int) - 1 := by rw [IntKind.wrap_i64]; omega
  generalize hres : (lk (envOf B) n).getD (-1) = res
  have HR : Hid (res = (lk (envOf (B.take B.length)) n).getD (-1)) := by show _ = _; rw [List.take_length]; exact hres.symm
  clear h hC hres
  go_enter Tryz.func57, Tryz.ntmps57
  go_wp2
  go_loopw [5] (fun v wr => ∃ i : Nat, v = .int .i64 ((i : Int) - 1) ∧ i ≤ B.length ∧ Hid (res = (lk (envOf (B.take i)) n).getD (-1)) ∧ wr = w) (fun v _ => (intOf v + 1).toNat)
  case atStart => exact ⟨B.length, rfl, Nat.le_refl _, HR, rfl⟩
  case round =>
    obtain ⟨i, rfl, hil, hr, hwr⟩ := hrel
    subst hwr
    cases i with
    | zero =>
      have HF : Hid (res = -1) := by show _ = _; rw [hr.out]; rfl
      clear hr
      go_wp2
      go_ret
      exact ⟨ret_int HF.out.symm, rfl⟩
    | succ i =>
      obtain ⟨x, hx⟩ : ∃ x, B[i]? = some x := ⟨_, List.getElem?_eq_getElem (by omega)⟩
      obtain ⟨g, rfl, z⟩ := HC.out i x hx
      have htk : B.take (i + 1) = B.take i ++ [x] := by rw [List.take_add_one, hx]; rfl
      have hlen : (B.take i).length = i := by rw [List.length_take]; omega
      have e1 : ((i + 1 : Nat) : Int) - 1 = (i : Int) := by omega
      have hge : (i : Int) ≥ 0 := by omega
      have hlt : (i : Int) < B.length := by omega
      have hil2 : i < B.length := by omega
      rw [e1]
      by_cases hxn : x = n
      · have g1 : (x == n) = true := by simp [hxn]
        have HF : Hid (res = i) := by show _ = _; rw [hr.out, htk, envOf_snoc, lk_cons, envOf_len, hlen]; simp [hxn]
        clear hr hx hxn htk hlen e1
        go_wp2
        go_ret
        exact ⟨ret_int HF.out.symm, rfl⟩
      · have g1 : (x == n) = false := by simp [hxn]
        have HF : Hid (res = (lk (envOf (B.take i)) n).getD (-1)) := by show _ = _; rw [hr.out, htk, envOf_snoc, lk_cons]; simp [hxn]
        have hw2 : IntKind.i64.wrap ((i : Int) - 1) = (i : Int) - 1 := by rw [IntKind.wrap_i64]; omega
        clear hr hx hxn htk hlen e1
        go_wp2
        go_roundw
        case rel => exact ⟨i, by first | rfl | trivial, by omega, HF, by first | rfl | trivial⟩
        case measure => simp [intOf]
/-- What a slice that is appended holds. -/
def Src (w : World) (k : Nat) (v : Value) (m : Nat) (news : List Value) : Prop := (v = .slice none 0 0 ∧ m = 0 ∧ news = []) ∨ ∃ ad c, v = .slice (some ad) m c ∧ news.length = m * k ∧ (∀ (j : Nat) u, news[j]? = some u → w.cell? (ad.add j) = some u) ∧ ∀ u ∈ news, u.oneCell' = true
theorem Ow.src {w : World} {v : Value} {l : List Int} (h : Ow w v l) : Src w 1 v l.length (l.map (.int .i64)) := by
  obtain ⟨g, h⟩ := h
  rcases h.2 with ⟨rfl, h0⟩ | ⟨b, cap, cur, rfl, hb, hc, hn, hm, hs, ht⟩
  · exact .inl ⟨rfl, h0, by rw [List.eq_nil_of_length_eq_zero h0]; rfl⟩
  · refine .inr ⟨⟨b, 0, none⟩, cap, rfl, by simp, h.cells (g := b) rfl, fun u hu => ?_⟩
    obtain ⟨x, -, rfl⟩ := List.mem_map.1 hu
    rfl
theorem wp_copy {P : Program} {ops : Array Oper} {rest : List Oper} {o : Oper} {a : Act} {w : World} {Q : Exit → Act → World → Prop} (hgd : o.guard = none) (s x : Operand) (t : TypeId)
    (ho : o.op = .call { callee := .builtin .append, args := #[s, x], argTypes := #[t, t] })
    (g : Nat) (e : TypeId) (i : TypeInfo) (z : Value) (size bytes : Nat) (ht : P.underlying t = some (.slice e)) (hi : P.info? e = some i) (hz : i.zero = some z)
    (hsize : i.size = size) (hby : i.bytes = bytes) (hzs : z.cells.size = size) (hsz : 0 < size) (hs : a.eval s = .slice (some ⟨g, 0, none⟩) 0 0) (hown : w.ownsRow g e size (.slice (some ⟨g, 0, none⟩) 0 0) 0 [])
    (v : Value) (m : Nat) (news : List Value) (hx : a.eval x = v) (hsrc : Src w size v m news) (hm : m ≤ 2199023255552) (hb : bytes ≤ 64) (hg : g ≤ w.heap.size)
    (h : ∀ v' w', w'.ownsRow g e size v' m news → Below g w w' → wpList P ops Q rest (a.put o.dst v') w') : wpList P ops Q (o :: rest) a w := by
  rcases hsrc with ⟨rfl, rfl, rfl⟩ | ⟨ad, c, rfl, hl, hnews, h1⟩
  · exact wpList_append_own_none hgd s x t ho g e i size ht hi _ 0 [] hs hown hx (h _ _ hown (Below.refl _ _))
  · refine wpList_append_own w hgd s x t ho g e i z size bytes ht hi hz hsize hby hzs hsz _ 0 [] hs hown ad m c news hx hl hnews h1 (by unfold maxLen; omega) (by rw [Nat.zero_add]; exact Nat.le_trans (Nat.mul_le_mul hm hb) (by decide)) hg ?_
    intro v' w' h2 h3 _
    rw [Nat.zero_add, List.nil_append] at h2
    exact h v' w' h2 ((Below.refl g w).grown h3 hg (fun b hb => (hown.lt b hb).1))

set_option maxHeartbeats 1000000 in
set_option maxRecDepth 100000 in
theorem with_any (w : World) (v : Value) (B : List Int) (n : Int) (h : Ow w v B) (hl : B.length ≤ 1099511627776) : Calls Tryz.prog 58 #[v, .int .i64 n] w fun e w' => ∃ v', e = .returned v' ∧ Ow w' v' (B ++ [n]) ∧ Below w.heap.size w w' := by
  obtain ⟨i0, hi, hz0, hz1, hz2⟩ := info_parts0 info_int
  have hsrc := (h.below (bl_alloc (Below.refl _ _) (.cells #[] IT))).src
  have row0 := row_new w IT 1
  have HS := hid hsrc
  clear hsrc h
  go_enter Tryz.func58, Tryz.ntmps58
  go_wp2_with (first
    | (at_builtin; refine wp_copy rfl _ _ 29 rfl w.heap.size IT i0 (.int .i64 0) 1 8 Tryz.underlying29 hi hz0 hz1 hz2 rfl (by decide) rfl row0 v B.length _ rfl HS.out (by omega) (by decide) (by rw [size_alloc]; omega) ?_; intro v1 w1 ho1 hb1; have O1 := hid ho1; have B1 := hid hb1; clear ho1 hb1 HS row0)
    | (at_builtin; refine wpList_append_own _ rfl _ _ 29 rfl w.heap.size IT i0 (.int .i64 0) 1 8 Tryz.underlying29 hi hz0 hz1 hz2 rfl (by decide) _ _ _ rfl (O1.out.alloc _) ⟨w1.heap.size, 0, none⟩ 1 1 [.int .i64 n] rfl rfl ?c1 ?c2 ?c3 ?c4 ?c5 ?_))
  case c1 =>
    intro j u hj
    match j, hj with
    | 0, hj => simp at hj; subst hj; simp [Addr.add]
  case c2 => intro u hu; simp at hu; subst hu; rfl
  case c3 => unfold maxLen; omega
  case c4 => omega
  case c5 => have := B1.out.size; rw [size_alloc] at this; simp; omega
  intro v2 w2 ho2 hg2 _
  go_wp2
  go_ret
  refine ⟨v2, rfl, ⟨w.heap.size, ?_⟩, ?_⟩
  · have e1 : (B ++ [n]).length = B.length + 1 := by simp
    rw [e1]
    simpa using ho2
  · exact ((((Below.refl _ w).alloc (Nat.le_refl _) _).trans B1.out).alloc (by have := B1.out.size; rw [size_alloc] at this; omega) _).grown hg2 (by have := B1.out.size; rw [size_alloc] at this; simp; omega) (fun b hb => (O1.out.lt b hb).1)
/-- A number put into a rising list: none, if it stands there. -/
def ins (n : Int) : Bool → List Int → Option (List Int)
  | d, [] => some (if d then [] else [n])
  | d, x :: r => if x = n then none else if (!d && decide (n < x)) = true then (ins n true r).map (fun q => n :: x :: q) else (ins n d r).map (fun q => x :: q)
def put1 (l : List Int) (n : Int) : List Int := (ins n false l).getD l
theorem ins_none (n : Int) : ∀ (d : Bool) (l : List Int), ins n d l = none ↔ n ∈ l
  | d, [] => by simp [ins]
  | d, x :: r => by
    rw [ins]
    by_cases h : x = n
    · simp [h]
    · have h' : ¬ n = x := fun e => h e.symm
      rw [if_neg h]
      split
      · rw [Option.map_eq_none_iff, ins_none]; simp [h']
      · rw [Option.map_eq_none_iff, ins_none]; simp [h']
theorem ins_true (n : Int) : ∀ (l : List Int), n ∉ l → ins n true l = some l
  | [], _ => rfl
  | x :: r, h => by
    have h1 : ¬ x = n := fun e => h (by simp [e])
    rw [ins, if_neg h1]
    simp only [Bool.not_true, Bool.false_and, Bool.false_eq_true, if_false]
    rw [ins_true n r (fun e => h (List.mem_cons_of_mem _ e))]
    rfl
theorem ins_false (n : Int) : ∀ (l : List Int), l.Pairwise (· < ·) → n ∉ l → ∃ q, ins n false l = some q ∧ q.Pairwise (· < ·) ∧ (∀ x, x ∈ q ↔ x ∈ l ∨ x = n) ∧ q.length = l.length + 1
  | [], _, _ => ⟨[n], rfl, by simp, fun x => by simp, rfl⟩
  | y :: r, hp, h => by
    have h1 : ¬ y = n := fun e => h (by simp [e])
    have hr : n ∉ r := fun e => h (List.mem_cons_of_mem _ e)
    obtain ⟨hy, hpr⟩ := List.pairwise_cons.1 hp
    rw [ins, if_neg h1]
    by_cases hlt : n < y
    · refine ⟨n :: y :: r, ?_, ?_, fun x => ?_, by simp⟩
      · simp [hlt, ins_true n r hr]
      · refine List.pairwise_cons.2 ⟨fun x hx => ?_, hp⟩
        rcases List.mem_cons.1 hx with rfl | hx
        · exact hlt
        · have := hy x hx; omega
      · simp only [List.mem_cons]
        constructor
        · rintro (rfl | rfl | h)
          · exact .inr rfl
          · exact .inl (.inl rfl)
          · exact .inl (.inr h)
        · rintro ((rfl | h) | rfl)
          · exact .inr (.inl rfl)
          · exact .inr (.inr h)
          · exact .inl rfl
    · obtain ⟨q, e1, e2, e3, e4⟩ := ins_false n r hpr hr
      refine ⟨y :: q, ?_, ?_, fun x => ?_, by simp [e4]⟩
      · simp [hlt, e1]
      · refine List.pairwise_cons.2 ⟨fun x hx => ?_, e2⟩
        rcases (e3 x).1 hx with hx | rfl
        · exact hy x hx
        · omega
      · simp only [List.mem_cons, e3]
        constructor
        · rintro (rfl | h | rfl)
          · exact .inl (.inl rfl)
          · exact .inl (.inr h)
          · exact .inr rfl
        · rintro ((rfl | h) | rfl)
          · exact .inl rfl
          · exact .inr (.inl h)
          · exact .inr (.inr rfl)
theorem put1_ok (l : List Int) (n : Int) (hp : l.Pairwise (· < ·)) : (put1 l n).Pairwise (· < ·) ∧ (∀ x, x ∈ put1 l n ↔ x ∈ l ∨ x = n) ∧ (put1 l n).length ≤ l.length + 1 := by
  unfold put1
  by_cases h : n ∈ l
  · rw [(ins_none n false l).2 h]
    refine ⟨hp, fun x => ⟨.inl, fun hx => hx.elim id (fun e => e ▸ h)⟩, by simp⟩
  · obtain ⟨q, e1, e2, e3, e4⟩ := ins_false n l hp h
    rw [e1]
    exact ⟨e2, e3, by simp [e4]⟩

set_option maxHeartbeats 2000000 in
set_option maxRecDepth 100000 in
theorem put1_any (w : World) (v : Value) (l : List Int) (n : Int) (h : Ow w v l) (hl : l.length ≤ 1099511627776) : Calls Tryz.prog 22 #[v, .int .i64 n] w fun e w' => ∃ v', e = .returned v' ∧ Ow w' v' (put1 l n) ∧ Below w.heap.size w w' := by
  obtain ⟨i0, hi, hz0, hz1, hz2⟩ := info_parts0 info_int
  have HW := hid h
  obtain ⟨a, c, rfl, hm, hcap, hC⟩ := h.form
  have hm : l.length ≤ 9223372036854775807 := hm
  have HCC : Hid (∀ wz, Below w.heap.size w wz → ∀ (j : Nat) x, l[j]? = some x → ∃ g, a = some ⟨g, 0, none⟩ ∧ wz.cell? ⟨g, j, none⟩ = some (.int .i64 x)) := fun wz hz j x hx => by
    obtain ⟨g, e1, e2⟩ := hC j x hx
    exact ⟨g, e1, (hz.cell (World.block_lt_of_cell? w _ e2)).trans e2⟩
  have HLL := hid hl
  clear h hC hl
  generalize hres : put1 l n = res
  have HR : Hid (∀ q, ins n false l = some q → res = q) := fun q hq => by rw [← hres]; unfold put1; rw [hq]; rfl
  have HR0 : Hid (n ∈ l → res = l) := fun hq => by rw [← hres]; unfold put1; rw [(ins_none n false l).2 hq]; rfl
  clear hres
  go_enter Tryz.func22, Tryz.ntmps22
  go_wp2
  go_loopw [5, 6, 7] (fun ov dv iv wr => ∃ (i : Nat) (d : Bool) (O : List Int), iv = .int .i64 i ∧ dv = .bool d ∧ i ≤ l.length ∧ Hid (ins n false l = (ins n d (l.drop i)).map (fun q => O ++ q)) ∧ Hid (wr.ownsRow w.heap.size IT 1 ov O.length (O.map (.int .i64))) ∧ Hid ((d = false → O.length ≤ i) ∧ O.length ≤ i + 1) ∧ Hid (Below w.heap.size w wr)) (fun _ _ v _ => l.length - (intOf v).toNat)
  case atStart => exact ⟨0, false, [], rfl, rfl, Nat.zero_le _, hid (by simp), hid (World.ownsRow_nil _ _ _ _), hid ⟨fun _ => by simp, by simp⟩, hid (Below.refl _ _)⟩
  case round =>
    obtain ⟨i, d, O, rfl, rfl, hil, hI, hO, hOL, hB⟩ := hrel
    by_cases hlt : i < l.length
    · obtain ⟨x, hx⟩ : ∃ x, l[i]? = some x := ⟨_, List.getElem?_eq_getElem hlt⟩
      obtain ⟨g, rfl, z⟩ := HCC.out _ hB.out i x hx
      have hd : l.drop i = x :: l.drop (i + 1) := by obtain ⟨hk, rfl⟩ := List.getElem?_eq_some_iff.1 hx; exact List.drop_eq_getElem_cons hk
      have hlt2 : (i : Int) < l.length := by omega
      have HXM : Hid (x ∈ l) := List.mem_of_getElem? hx
      by_cases hxn : x = n
      · have g1 : (x == n) = true := by simp [hxn]
        have HF : Hid (res = l) := HR0.out (hxn ▸ HXM.out)
        clear hI hO hx hxn hd HCC
        go_wp2
        go_ret
        exact ⟨_, rfl, by rw [HF.out]; exact HW.out.below hB.out, hB.out⟩
      · have g1 : (x == n) = false := by simp [hxn]
        have hin : ins n d (l.drop i) = if (!d && decide (n < x)) = true then (ins n true (l.drop (i + 1))).map (fun q => n :: x :: q) else (ins n d (l.drop (i + 1))).map (fun q => x :: q) := by rw [hd, ins, if_neg hxn]
        have ob := hO.out
        have hwl : w.heap.size ≤ wr.heap.size := hB.out.size
        by_cases hc : d = false ∧ n < x
        · obtain ⟨rfl, hnx⟩ := hc
          have g2 : x > n := hnx
          have HI2 : Hid (ins n false l = (ins n true (l.drop (i + 1))).map (fun q => (O ++ [n] ++ [x]) ++ q)) := by
            show _ = _
            rw [hI.out, hin, if_pos (by simp [hnx]), Option.map_map]
            congr 1
            funext q
            simp
          obtain ⟨v1, w1, hr1, ho1, hg1, -⟩ := append_own2 (P := Tryz.prog) (wr.alloc (.cells #[.int .i64 n] IT)) w.heap.size 29 29 IT i0 (.int .i64 0) 1 8 Tryz.underlying29 hi hz0 hz1 hz2 rfl (by decide) _ _ _ (ob.alloc _) ⟨wr.heap.size, 0, none⟩ 1 1 [.int .i64 n] rfl (by
            intro j u hj
            match j, hj with
            | 0, hj => simp at hj; subst hj; simp [Addr.add]) (by intro u hu; simp at hu; subst hu; rfl) (by have := hOL.out.2; have := HLL.out; unfold maxLen; omega) (by have := hOL.out.2; have := HLL.out; omega) (by rw [size_alloc]; omega)
          have b1 : Below w.heap.size w w1 := (hB.out.alloc hwl _).grown hg1 (by simp; omega) (fun b hb => (ob.lt b hb).1)
          have hw1 := b1.size
          obtain ⟨v2, w2, hr2, ho2, hg2, -⟩ := append_own2 (P := Tryz.prog) (w1.alloc (.cells #[.int .i64 x] IT)) w.heap.size 29 29 IT i0 (.int .i64 0) 1 8 Tryz.underlying29 hi hz0 hz1 hz2 rfl (by decide) _ _ _ (ho1.alloc _) ⟨w1.heap.size, 0, none⟩ 1 1 [.int .i64 x] rfl (by
            intro j u hj
            match j, hj with
            | 0, hj => simp at hj; subst hj; simp [Addr.add]) (by intro u hu; simp at hu; subst hu; rfl) (by have := hOL.out.2; have := HLL.out; unfold maxLen; omega) (by have := hOL.out.2; have := HLL.out; omega) (by rw [size_alloc]; omega)
          have B2 : Hid (Below w.heap.size w w2) := (b1.alloc hw1 _).grown hg2 (by simp; omega) (fun b hb => (ho1.lt b hb).1)
          have HO2 : Hid (w2.ownsRow w.heap.size IT 1 v2 (O ++ [n] ++ [x]).length ((O ++ [n] ++ [x]).map (.int .i64))) := by
            show World.ownsRow _ _ _ _ _ _ _
            have e1 : (O ++ [n] ++ [x]).length = O.length + 1 + 1 := by simp
            rw [e1]
            simpa using ho2
          obtain ⟨g', e', z1⟩ := HCC.out _ b1 i x hx
          injection e' with e'; injection e' with e' _ _; subst e'
          clear hI hO hx hxn hd hin ob ho1 ho2 hg1 hg2 b1 hnx HCC
          go_wp2_with (first | (at_builtin; refine wpList_app rfl _ _ 29 rfl _ _ rfl rfl _ _ hr1 ?_; clear hr1) | (at_builtin; refine wpList_app rfl _ _ 29 rfl _ _ rfl rfl _ _ hr2 ?_; clear hr2))
          go_roundw
          case rel => exact ⟨i + 1, true, O ++ [n] ++ [x], by go_num, rfl, by omega, HI2, HO2, hid ⟨fun h => (by cases h), by have := hOL.out.1 rfl; simp; omega⟩, B2⟩
          case measure => simp [intOf]; omega
        · have HI2 : Hid (ins n false l = (ins n d (l.drop (i + 1))).map (fun q => (O ++ [x]) ++ q)) := by
            show _ = _
            rw [hI.out, hin, if_neg (by cases d <;> simp at hc ⊢; omega), Option.map_map]
            congr 1
            funext q
            simp
          obtain ⟨v2, w2, hr2, ho2, hg2, -⟩ := append_own2 (P := Tryz.prog) (wr.alloc (.cells #[.int .i64 x] IT)) w.heap.size 29 29 IT i0 (.int .i64 0) 1 8 Tryz.underlying29 hi hz0 hz1 hz2 rfl (by decide) _ _ _ (ob.alloc _) ⟨wr.heap.size, 0, none⟩ 1 1 [.int .i64 x] rfl (by
            intro j u hj
            match j, hj with
            | 0, hj => simp at hj; subst hj; simp [Addr.add]) (by intro u hu; simp at hu; subst hu; rfl) (by have := hOL.out.2; have := HLL.out; unfold maxLen; omega) (by have := hOL.out.2; have := HLL.out; omega) (by rw [size_alloc]; omega)
          have B2 : Hid (Below w.heap.size w w2) := (hB.out.alloc hwl _).grown hg2 (by simp; omega) (fun b hb => (ob.lt b hb).1)
          have HO2 : Hid (w2.ownsRow w.heap.size IT 1 v2 (O ++ [x]).length ((O ++ [x]).map (.int .i64))) := by
            show World.ownsRow _ _ _ _ _ _ _
            have e1 : (O ++ [x]).length = O.length + 1 := by simp
            rw [e1]
            simpa using ho2
          cases d with
          | true =>
            clear hI hO hx hxn hd hin ob ho2 hg2 hc HCC
            go_wp2_with (first | (at_builtin; refine wpList_app rfl _ _ 29 rfl _ _ rfl rfl _ _ hr2 ?_; clear hr2))
            go_roundw
            case rel => exact ⟨i + 1, true, O ++ [x], by go_num, rfl, by omega, HI2, HO2, hid ⟨fun h => (by cases h), by have := hOL.out.2; simp; omega⟩, B2⟩
            case measure => simp [intOf]; omega
          | false =>
            have g2 : ¬ x > n := fun hq => hc ⟨rfl, hq⟩
            clear hI hO hx hxn hd hin ob ho2 hg2 hc HCC
            go_wp2_with (first | (at_builtin; refine wpList_app rfl _ _ 29 rfl _ _ rfl rfl _ _ hr2 ?_; clear hr2))
            go_roundw
            case rel => exact ⟨i + 1, false, O ++ [x], by go_num, rfl, by omega, HI2, HO2, hid ⟨fun _ => (by have := hOL.out.1 rfl; simp; omega), by have := hOL.out.2; simp; omega⟩, B2⟩
            case measure => simp [intOf]; omega
    · have hd : l.drop i = [] := List.drop_eq_nil_of_le (by omega)
      have hi2 : ¬ (i : Int) < l.length := by omega
      have ob := hO.out
      have hwl : w.heap.size ≤ wr.heap.size := hB.out.size
      cases d with
      | true =>
        have HF : Hid (res = O) := HR.out O (by rw [hI.out, hd, ins]; simp)
        clear hI hd ob
        go_wp2
        go_ret
        exact ⟨_, rfl, by rw [HF.out]; exact ⟨_, hO.out⟩, hB.out⟩
      | false =>
        have HF : Hid (res = O ++ [n]) := HR.out _ (by rw [hI.out, hd, ins]; simp)
        obtain ⟨v2, w2, hr2, ho2, hg2, -⟩ := append_own2 (P := Tryz.prog) (wr.alloc (.cells #[.int .i64 n] IT)) w.heap.size 29 29 IT i0 (.int .i64 0) 1 8 Tryz.underlying29 hi hz0 hz1 hz2 rfl (by decide) _ _ _ (ob.alloc _) ⟨wr.heap.size, 0, none⟩ 1 1 [.int .i64 n] rfl (by
          intro j u hj
          match j, hj with
          | 0, hj => simp at hj; subst hj; simp [Addr.add]) (by intro u hu; simp at hu; subst hu; rfl) (by have := hOL.out.2; have := HLL.out; unfold maxLen; omega) (by have := hOL.out.2; have := HLL.out; omega) (by rw [size_alloc]; omega)
        have B2 : Hid (Below w.heap.size w w2) := (hB.out.alloc hwl _).grown hg2 (by simp; omega) (fun b hb => (ob.lt b hb).1)
        have HO2 : Hid (w2.ownsRow w.heap.size IT 1 v2 (O ++ [n]).length ((O ++ [n]).map (.int .i64))) := by
          show World.ownsRow _ _ _ _ _ _ _
          have e1 : (O ++ [n]).length = O.length + 1 := by simp
          rw [e1]
          simpa using ho2
        clear hI hd ob ho2 hg2
        go_wp2_with (first | (at_builtin; refine wpList_app rfl _ _ 29 rfl _ _ rfl rfl _ _ hr2 ?_; clear hr2))
        go_ret
        exact ⟨_, rfl, by rw [HF.out]; exact ⟨_, HO2.out⟩, B2.out⟩
def RFreeOf (n : Nat) : Prop := ∀ (w : World) (a' : Option Addr) (c' : Nat) (a : Option Addr) (c : Nat) (t : Tt) (bv gv : Value) (B G : List Int), TAt w Any n [.int .i64 t.k, .int .i64 t.n, .slice a' t.ls.length c', .slice a t.ks.length c] t → Ow w bv B → Ow w gv G → G.Pairwise (· < ·) → B.length + t.cnt ≤ 1099511627776 → G.length + t.cnt ≤ 1099511627776 →
  Calls Tryz.prog 30 #[.agg #[.int .i64 t.k, .int .i64 t.n, .slice a' t.ls.length c', .slice a t.ks.length c], bv, gv] w fun e w' => ∃ v' G', e = .returned v' ∧ Ow w' v' G' ∧ G'.Pairwise (· < ·) ∧ (∀ x, x ∈ G' ↔ x ∈ G ∨ t.fv (envOf B) x = true) ∧ G'.length ≤ G.length + t.cnt ∧ Below w.heap.size w w'
theorem Tt.binds_k (t : Tt) : t.binds = bindsK t.k := rfl

set_option maxHeartbeats 2000000 in
set_option maxRecDepth 100000 in
theorem rfree_step (n : Nat) (ih : RFreeOf n) : RFreeOf (n + 1) := by
  intro w a' c' a c t bv gv B G h hB hG hp q1 q2
  obtain ⟨_, _, hv, -, hn64, -, hL⟩ := h
  injection hv with _ hv; injection hv with _ hv; injection hv with e2 hv; injection hv with e3 _
  subst e2 e3
  have hlm : t.ks.length ≤ 9223372036854775807 := by obtain ⟨_, _, _, hm⟩ := TAtL.form hL; exact hm
  have XA : Hid (Arr (w.alloc (.cells #[.int .i64 t.k, .int .i64 t.n, .slice a' t.ls.length c', .slice a t.ks.length c] TY)) w.heap.size TY [.int .i64 t.k, .int .i64 t.n, .slice a' t.ls.length c', .slice a t.ks.length c]) := ⟨heap_alloc_at _ _⟩
  have B1 : Hid (Below w.heap.size w (w.alloc (.cells #[.int .i64 t.k, .int .i64 t.n, .slice a' t.ls.length c', .slice a t.ks.length c] TY))) := bl_alloc (Below.refl _ _) _
  have HX : Hid (∀ wz, Below (w.alloc (.cells #[.int .i64 t.k, .int .i64 t.n, .slice a' t.ls.length c', .slice a t.ks.length c] TY)).heap.size (w.alloc (.cells #[.int .i64 t.k, .int .i64 t.n, .slice a' t.ls.length c', .slice a t.ks.length c] TY)) wz → ∀ j, wz.cell? ⟨w.heap.size, j, none⟩ = [.int .i64 t.k, .int .i64 t.n, .slice a' t.ls.length c', .slice a t.ks.length c][j]?) := fun wz hz j => (XA.out.stays hz).cell j
  have HL : Hid (∀ wz, Below w.heap.size w wz → TAtL wz Any n (.slice a t.ks.length c) t.ks) := fun wz hz => TAtL.below hL hz
  have hct := Tt.cnt_ks t
  have HQ := hid (And.intro q1 (And.intro q2 hct))
  have HIH := hid ih
  -- the number itself
  have STEP1 : Hid (∃ G1 : List Int, G1.Pairwise (· < ·) ∧ (∀ x, x ∈ G1 ↔ x ∈ G ∨ (t.k = 6 ∧ t.n = x ∧ lk (envOf B) x = none)) ∧ G1.length ≤ G.length + 1 ∧ (G1 = put1 G t.n ∧ t.k = 6 ∧ lk (envOf B) t.n = none ∨ G1 = G ∧ (t.k = 6 → ∃ j, lk (envOf B) t.n = some j))) := by
    show ∃ _, _
    by_cases h6 : t.k = 6
    · cases hlk : lk (envOf B) t.n with
      | none =>
        obtain ⟨g1, g2, g3⟩ := put1_ok G t.n hp
        refine ⟨put1 G t.n, g1, fun x => ?_, g3, .inl ⟨rfl, h6, rfl⟩⟩
        rw [g2 x]
        constructor
        · rintro (h | rfl)
          · exact .inl h
          · exact .inr ⟨h6, rfl, hlk⟩
        · rintro (h | ⟨-, rfl, -⟩)
          · exact .inl h
          · exact .inr rfl
      | some j =>
        refine ⟨G, hp, fun x => ⟨.inl, fun hx => hx.elim id (fun q => ?_)⟩, by omega, .inr ⟨rfl, fun _ => ⟨j, rfl⟩⟩⟩
        obtain ⟨-, e1, e2⟩ := q
        rw [← e1, hlk] at e2
        cases e2
    · exact ⟨G, hp, fun x => ⟨.inl, fun hx => hx.elim id (fun q => absurd q.1 h6)⟩, by omega, .inr ⟨rfl, fun q => absurd q h6⟩⟩
  obtain ⟨G1, p1, m1, l1, alt⟩ := STEP1.out
  have HM : Hid (∀ x, (x ∈ G1 ∨ Tt.fvL t.ks (t.env (envOf B)) x = true) ↔ (x ∈ G ∨ t.fv (envOf B) x = true)) := fun x => by
    rw [m1 x, Tt.fv_mk]
    simp only [Bool.or_eq_true, Bool.and_eq_true, beq_iff_eq, Option.isNone_iff_eq_none]
    constructor
    · rintro ((h | h) | h)
      · exact .inl h
      · exact .inr (.inl h)
      · exact .inr (.inr h)
    · rintro (h | h | h)
      · exact .inl (.inl h)
      · exact .inl (.inr h)
      · exact .inr h
  have HENV : t.env (envOf B) = envOf (if t.binds then B ++ [t.n] else B) := by
    unfold Tt.env
    cases t.binds with
    | true => simp only [if_true]; rw [envOf_snoc]
    | false => simp
  have LQ : Hid (∀ wz, Below w.heap.size w wz → Calls Tryz.prog 57 #[bv, .int .i64 t.n] wz fun e w' => e = .returned (.int .i64 ((lk (envOf B) t.n).getD (-1))) ∧ w' = wz) := fun wz hz => level_any wz bv B t.n (hB.below hz)
  have PQ : Hid (∀ wz, Below w.heap.size w wz → Calls Tryz.prog 22 #[gv, .int .i64 t.n] wz fun e w' => ∃ v', e = .returned v' ∧ Ow w' v' (put1 G t.n) ∧ Below wz.heap.size wz w') := fun wz hz => put1_any wz gv G t.n (hG.below hz) (by omega)
  have WQ : Hid (∀ wz, Below w.heap.size w wz → Calls Tryz.prog 58 #[bv, .int .i64 t.n] wz fun e w' => ∃ v', e = .returned v' ∧ Ow w' v' (B ++ [t.n]) ∧ Below wz.heap.size wz w') := fun wz hz => with_any wz bv B t.n (hB.below hz) (by omega)
  have BQ : Hid (∀ wz : World, Calls Tryz.prog 50 #[.int .i64 t.k] wz fun e w' => e = .returned (.bool t.binds) ∧ w' = wz) := fun wz => rbinds_any wz t.k
  have OB : Hid (∀ wz, Below w.heap.size w wz → Ow wz bv B) := fun wz hz => hB.below hz
  have OG : Hid (∀ wz, Below w.heap.size w wz → Ow wz gv G) := fun wz hz => hG.below hz
  -- the loop, from any world
  have FIN : Hid (∀ x, (x ∈ G ∨ t.fv (envOf B) x = true) ↔ (x ∈ G1 ∨ Tt.fvL (t.ks.drop 0) (envOf (if t.binds then B ++ [t.n] else B)) x = true)) := fun x => by rw [← HM.out x, HENV, List.drop_zero]
  have HP1 := hid p1
  have HL1 := hid l1
  obtain ⟨B', hB'⟩ : ∃ B', (if t.binds then B ++ [t.n] else B) = B' := ⟨_, rfl⟩
  rw [hB'] at FIN
  have HBL : Hid (B'.length ≤ B.length + 1) := by show _ ≤ _; rw [← hB']; split <;> simp
  have HBB := hid hB'
  have x0 := XA.out.cell
  clear hL ih q1 q2 hct hB hG hp p1 m1 l1 HM HENV STEP1 hB'
  rcases alt with ⟨hG1, h6, hlk⟩ | ⟨hG1, halt⟩
  · have g6 : (t.k == 6) = true := by simp [h6]
    rw [hlk] at LQ
    have LQ : Hid (∀ wz, Below w.heap.size w wz → Calls Tryz.prog 57 #[bv, .int .i64 t.n] wz fun e w' => e = .returned (.int .i64 (-1)) ∧ w' = wz) := LQ
    cases hbn : t.binds with
    | true =>
      rw [hbn] at BQ HBB
      simp only [if_true] at HBB
      try clear halt
      try clear hlk
      try clear h6
      try clear hbn
      go_enter Tryz.func30, Tryz.ntmps30
      go_wp2_with (first | (go_at_call 57; refine (LQ.out _ B1.out).mono ?_; rintro e w3 ⟨rfl, hw⟩; rw [hw]; clear hw w3 LQ) | (go_at_call 22; refine (PQ.out _ B1.out).mono ?_; rintro e w4 ⟨v4, rfl, ho4, b4⟩; have x4 := HX.out _ b4; clear PQ) | (go_at_call 50; refine (BQ.out _).mono ?_; rintro e w3 ⟨rfl, hw⟩; rw [hw]; clear hw w3 BQ) | (go_at_call 58; refine (WQ.out _ (bl_tr B1.out b4)).mono ?_; rintro e w5 ⟨v5, rfl, ho5, b5⟩; clear WQ))
      have BS : Hid (Below (w.alloc (.cells #[.int .i64 t.k, .int .i64 t.n, .slice a' t.ls.length c', .slice a t.ks.length c] TY)).heap.size (w.alloc (.cells #[.int .i64 t.k, .int .i64 t.n, .slice a' t.ls.length c', .slice a t.ks.length c] TY)) w5) := hid (bl_tr b4 b5)
      have OV : Hid (Ow w5 v4 G1) := by rw [hG1]; exact (ho4.below b5)
      have OBV : Hid (Ow w5 v5 B') := by rw [← HBB.out]; exact ho5
      go_loopw [2, 7] (fun ov v wr => ∃ (i : Nat) (G' : List Int), v = .int .i64 i ∧ i ≤ t.ks.length ∧ Hid (Ow wr ov G') ∧ Hid (G'.Pairwise (· < ·)) ∧ Hid (∀ x, (x ∈ G ∨ t.fv (envOf B) x = true) ↔ (x ∈ G' ∨ Tt.fvL (t.ks.drop i) (envOf B') x = true)) ∧ Hid (G'.length + Tt.cntL (t.ks.drop i) ≤ G.length + t.cnt ∧ Tt.cntL (t.ks.drop i) ≤ Tt.cntL t.ks) ∧ Hid (Below (w.alloc (.cells #[.int .i64 t.k, .int .i64 t.n, .slice a' t.ls.length c', .slice a t.ks.length c] TY)).heap.size (w.alloc (.cells #[.int .i64 t.k, .int .i64 t.n, .slice a' t.ls.length c', .slice a t.ks.length c] TY)) wr ∧ Ow wr v5 B')) (fun _ v _ => t.ks.length - (intOf v).toNat)
      case atStart => exact ⟨0, G1, rfl, Nat.zero_le _, OV, HP1, FIN, hid (by have := HL1.out; have := HQ.out; rw [List.drop_zero]; constructor <;> omega), hid ⟨BS.out, OBV.out⟩⟩
      case round =>
        obtain ⟨i, G', rfl, hil, hO, hP, hM, hN, hb⟩ := hrel
        have x3 := HX.out _ hb.out.1
        have BW := hid (bl_tr B1.out hb.out.1)
        by_cases hlt : i < t.ks.length
        · obtain ⟨x, hx⟩ : ∃ x, t.ks[i]? = some x := ⟨_, List.getElem?_eq_getElem hlt⟩
          obtain ⟨kb, ko, k1, k2, k3, k4, rfl, hcap, z0, z1, z2, z3, hT⟩ := (HL.out wr BW.out).load hx
          have HC2 : Hid (Tt.cntL (t.ks.drop i) = x.cnt + Tt.cntL (t.ks.drop (i + 1))) := Tt.cntL_drop hx
          have HQ2 := hid (HIH.out wr k1 k2 k3 k4 x _ _ B' G' hT hb.out.2 hO.out hP.out (by have := HQ.out; have := HBL.out; have := HC2.out; have := hN.out; omega) (by have := HQ.out; have := HC2.out; have := hN.out; omega))
          have HM2 : Hid (∀ y, (y ∈ G ∨ t.fv (envOf B) y = true) ↔ ((y ∈ G' ∨ x.fv (envOf B') y = true) ∨ Tt.fvL (t.ks.drop (i + 1)) (envOf B') y = true)) := fun y => by rw [hM.out y, Tt.fvL_drop hx]; simp only [Bool.or_eq_true, or_assoc]
          have hlt2 : (i : Int) < t.ks.length := by omega
          clear hx hT hM
          go_wp2_with (go_at_call 30; refine (HQ2.out).mono ?_; rintro e w3 ⟨v3, G3, rfl, ho3, hp3, hm3, hl3, b3⟩; clear HQ2)
          go_roundw
          case rel => exact ⟨i + 1, G3, by go_num, by omega, hid ho3, hid hp3, hid (fun y => by rw [HM2.out y, hm3 y]), hid (by have := hN.out; have := HC2.out; constructor <;> omega), hid ⟨bl_tr hb.out.1 b3, hb.out.2.below b3⟩⟩
          case measure => simp [intOf]; omega
        · have hd : t.ks.drop i = [] := List.drop_eq_nil_of_le (by omega)
          have hi2 : ¬ (i : Int) < t.ks.length := by omega
          have HM2 : Hid (∀ y, y ∈ G' ↔ (y ∈ G ∨ t.fv (envOf B) y = true)) := fun y => by rw [hM.out y, hd, Tt.fvL]; simp
          clear hd hM
          go_wp2
          go_ret
          first | exact ⟨_, G', rfl, hO.out, hP.out, HM2.out, by have := hN.out; omega, BW.out⟩ | exact ⟨_, rfl, G', hO.out, hP.out, HM2.out, by have := hN.out; omega, BW.out⟩
    | false =>
      rw [hbn] at BQ HBB
      simp only [Bool.false_eq_true, if_false] at HBB
      try clear halt
      try clear hlk
      try clear h6
      try clear hbn
      go_enter Tryz.func30, Tryz.ntmps30
      go_wp2_with (first | (go_at_call 57; refine (LQ.out _ B1.out).mono ?_; rintro e w3 ⟨rfl, hw⟩; rw [hw]; clear hw w3 LQ) | (go_at_call 22; refine (PQ.out _ B1.out).mono ?_; rintro e w4 ⟨v4, rfl, ho4, b4⟩; have x4 := HX.out _ b4; clear PQ) | (go_at_call 50; refine (BQ.out _).mono ?_; rintro e w3 ⟨rfl, hw⟩; rw [hw]; clear hw w3 BQ) | (go_at_call 58; refine (WQ.out _ (bl_tr B1.out b4)).mono ?_; rintro e w5 ⟨v5, rfl, ho5, b5⟩; clear WQ))
      have BS : Hid (Below (w.alloc (.cells #[.int .i64 t.k, .int .i64 t.n, .slice a' t.ls.length c', .slice a t.ks.length c] TY)).heap.size (w.alloc (.cells #[.int .i64 t.k, .int .i64 t.n, .slice a' t.ls.length c', .slice a t.ks.length c] TY)) w4) := hid (b4)
      have OV : Hid (Ow w4 v4 G1) := by rw [hG1]; exact ho4
      have OBV : Hid (Ow w4 bv B') := by rw [← HBB.out]; exact OB.out _ (bl_tr B1.out BS.out)
      go_loopw [2, 7] (fun ov v wr => ∃ (i : Nat) (G' : List Int), v = .int .i64 i ∧ i ≤ t.ks.length ∧ Hid (Ow wr ov G') ∧ Hid (G'.Pairwise (· < ·)) ∧ Hid (∀ x, (x ∈ G ∨ t.fv (envOf B) x = true) ↔ (x ∈ G' ∨ Tt.fvL (t.ks.drop i) (envOf B') x = true)) ∧ Hid (G'.length + Tt.cntL (t.ks.drop i) ≤ G.length + t.cnt ∧ Tt.cntL (t.ks.drop i) ≤ Tt.cntL t.ks) ∧ Hid (Below (w.alloc (.cells #[.int .i64 t.k, .int .i64 t.n, .slice a' t.ls.length c', .slice a t.ks.length c] TY)).heap.size (w.alloc (.cells #[.int .i64 t.k, .int .i64 t.n, .slice a' t.ls.length c', .slice a t.ks.length c] TY)) wr ∧ Ow wr bv B')) (fun _ v _ => t.ks.length - (intOf v).toNat)
      case atStart => exact ⟨0, G1, rfl, Nat.zero_le _, OV, HP1, FIN, hid (by have := HL1.out; have := HQ.out; rw [List.drop_zero]; constructor <;> omega), hid ⟨BS.out, OBV.out⟩⟩
      case round =>
        obtain ⟨i, G', rfl, hil, hO, hP, hM, hN, hb⟩ := hrel
        have x3 := HX.out _ hb.out.1
        have BW := hid (bl_tr B1.out hb.out.1)
        by_cases hlt : i < t.ks.length
        · obtain ⟨x, hx⟩ : ∃ x, t.ks[i]? = some x := ⟨_, List.getElem?_eq_getElem hlt⟩
          obtain ⟨kb, ko, k1, k2, k3, k4, rfl, hcap, z0, z1, z2, z3, hT⟩ := (HL.out wr BW.out).load hx
          have HC2 : Hid (Tt.cntL (t.ks.drop i) = x.cnt + Tt.cntL (t.ks.drop (i + 1))) := Tt.cntL_drop hx
          have HQ2 := hid (HIH.out wr k1 k2 k3 k4 x _ _ B' G' hT hb.out.2 hO.out hP.out (by have := HQ.out; have := HBL.out; have := HC2.out; have := hN.out; omega) (by have := HQ.out; have := HC2.out; have := hN.out; omega))
          have HM2 : Hid (∀ y, (y ∈ G ∨ t.fv (envOf B) y = true) ↔ ((y ∈ G' ∨ x.fv (envOf B') y = true) ∨ Tt.fvL (t.ks.drop (i + 1)) (envOf B') y = true)) := fun y => by rw [hM.out y, Tt.fvL_drop hx]; simp only [Bool.or_eq_true, or_assoc]
          have hlt2 : (i : Int) < t.ks.length := by omega
          clear hx hT hM
          go_wp2_with (go_at_call 30; refine (HQ2.out).mono ?_; rintro e w3 ⟨v3, G3, rfl, ho3, hp3, hm3, hl3, b3⟩; clear HQ2)
          go_roundw
          case rel => exact ⟨i + 1, G3, by go_num, by omega, hid ho3, hid hp3, hid (fun y => by rw [HM2.out y, hm3 y]), hid (by have := hN.out; have := HC2.out; constructor <;> omega), hid ⟨bl_tr hb.out.1 b3, hb.out.2.below b3⟩⟩
          case measure => simp [intOf]; omega
        · have hd : t.ks.drop i = [] := List.drop_eq_nil_of_le (by omega)
          have hi2 : ¬ (i : Int) < t.ks.length := by omega
          have HM2 : Hid (∀ y, y ∈ G' ↔ (y ∈ G ∨ t.fv (envOf B) y = true)) := fun y => by rw [hM.out y, hd, Tt.fvL]; simp
          clear hd hM
          go_wp2
          go_ret
          first | exact ⟨_, G', rfl, hO.out, hP.out, HM2.out, by have := hN.out; omega, BW.out⟩ | exact ⟨_, rfl, G', hO.out, hP.out, HM2.out, by have := hN.out; omega, BW.out⟩
  · by_cases h6 : t.k = 6
    · have g6 : (t.k == 6) = true := by simp [h6]
      obtain ⟨j, hlk⟩ := halt h6
      rw [hlk] at LQ
      have LQ : Hid (∀ wz, Below w.heap.size w wz → Calls Tryz.prog 57 #[bv, .int .i64 t.n] wz fun e w' => e = .returned (.int .i64 j) ∧ w' = wz) := LQ
      have hj : ¬ j < 0 := by have := envOf_pos _ B t.n j rfl hlk; omega
      cases hbn : t.binds with
      | true =>
        rw [hbn] at BQ HBB
        simp only [if_true] at HBB
        try clear halt
        try clear hlk
        try clear h6
        try clear hbn
        go_enter Tryz.func30, Tryz.ntmps30
        go_wp2_with (first | (go_at_call 57; refine (LQ.out _ B1.out).mono ?_; rintro e w3 ⟨rfl, hw⟩; rw [hw]; clear hw w3 LQ) | (go_at_call 22; refine (PQ.out _ B1.out).mono ?_; rintro e w4 ⟨v4, rfl, ho4, b4⟩; have x4 := HX.out _ b4; clear PQ) | (go_at_call 50; refine (BQ.out _).mono ?_; rintro e w3 ⟨rfl, hw⟩; rw [hw]; clear hw w3 BQ) | (go_at_call 58; refine (WQ.out _ B1.out).mono ?_; rintro e w5 ⟨v5, rfl, ho5, b5⟩; clear WQ))
        have BS : Hid (Below (w.alloc (.cells #[.int .i64 t.k, .int .i64 t.n, .slice a' t.ls.length c', .slice a t.ks.length c] TY)).heap.size (w.alloc (.cells #[.int .i64 t.k, .int .i64 t.n, .slice a' t.ls.length c', .slice a t.ks.length c] TY)) w5) := hid (b5)
        have OV : Hid (Ow w5 gv G1) := by rw [hG1]; exact (OG.out _ (bl_tr B1.out BS.out))
        have OBV : Hid (Ow w5 v5 B') := by rw [← HBB.out]; exact ho5
        go_loopw [2, 7] (fun ov v wr => ∃ (i : Nat) (G' : List Int), v = .int .i64 i ∧ i ≤ t.ks.length ∧ Hid (Ow wr ov G') ∧ Hid (G'.Pairwise (· < ·)) ∧ Hid (∀ x, (x ∈ G ∨ t.fv (envOf B) x = true) ↔ (x ∈ G' ∨ Tt.fvL (t.ks.drop i) (envOf B') x = true)) ∧ Hid (G'.length + Tt.cntL (t.ks.drop i) ≤ G.length + t.cnt ∧ Tt.cntL (t.ks.drop i) ≤ Tt.cntL t.ks) ∧ Hid (Below (w.alloc (.cells #[.int .i64 t.k, .int .i64 t.n, .slice a' t.ls.length c', .slice a t.ks.length c] TY)).heap.size (w.alloc (.cells #[.int .i64 t.k, .int .i64 t.n, .slice a' t.ls.length c', .slice a t.ks.length c] TY)) wr ∧ Ow wr v5 B')) (fun _ v _ => t.ks.length - (intOf v).toNat)
        case atStart => exact ⟨0, G1, rfl, Nat.zero_le _, OV, HP1, FIN, hid (by have := HL1.out; have := HQ.out; rw [List.drop_zero]; constructor <;> omega), hid ⟨BS.out, OBV.out⟩⟩
        case round =>
          obtain ⟨i, G', rfl, hil, hO, hP, hM, hN, hb⟩ := hrel
          have x3 := HX.out _ hb.out.1
          have BW := hid (bl_tr B1.out hb.out.1)
          by_cases hlt : i < t.ks.length
          · obtain ⟨x, hx⟩ : ∃ x, t.ks[i]? = some x := ⟨_, List.getElem?_eq_getElem hlt⟩
            obtain ⟨kb, ko, k1, k2, k3, k4, rfl, hcap, z0, z1, z2, z3, hT⟩ := (HL.out wr BW.out).load hx
            have HC2 : Hid (Tt.cntL (t.ks.drop i) = x.cnt + Tt.cntL (t.ks.drop (i + 1))) := Tt.cntL_drop hx
            have HQ2 := hid (HIH.out wr k1 k2 k3 k4 x _ _ B' G' hT hb.out.2 hO.out hP.out (by have := HQ.out; have := HBL.out; have := HC2.out; have := hN.out; omega) (by have := HQ.out; have := HC2.out; have := hN.out; omega))
            have HM2 : Hid (∀ y, (y ∈ G ∨ t.fv (envOf B) y = true) ↔ ((y ∈ G' ∨ x.fv (envOf B') y = true) ∨ Tt.fvL (t.ks.drop (i + 1)) (envOf B') y = true)) := fun y => by rw [hM.out y, Tt.fvL_drop hx]; simp only [Bool.or_eq_true, or_assoc]
            have hlt2 : (i : Int) < t.ks.length := by omega
            clear hx hT hM
            go_wp2_with (go_at_call 30; refine (HQ2.out).mono ?_; rintro e w3 ⟨v3, G3, rfl, ho3, hp3, hm3, hl3, b3⟩; clear HQ2)
            go_roundw
            case rel => exact ⟨i + 1, G3, by go_num, by omega, hid ho3, hid hp3, hid (fun y => by rw [HM2.out y, hm3 y]), hid (by have := hN.out; have := HC2.out; constructor <;> omega), hid ⟨bl_tr hb.out.1 b3, hb.out.2.below b3⟩⟩
            case measure => simp [intOf]; omega
          · have hd : t.ks.drop i = [] := List.drop_eq_nil_of_le (by omega)
            have hi2 : ¬ (i : Int) < t.ks.length := by omega
            have HM2 : Hid (∀ y, y ∈ G' ↔ (y ∈ G ∨ t.fv (envOf B) y = true)) := fun y => by rw [hM.out y, hd, Tt.fvL]; simp
            clear hd hM
            go_wp2
            go_ret
            first | exact ⟨_, G', rfl, hO.out, hP.out, HM2.out, by have := hN.out; omega, BW.out⟩ | exact ⟨_, rfl, G', hO.out, hP.out, HM2.out, by have := hN.out; omega, BW.out⟩
      | false =>
        rw [hbn] at BQ HBB
        simp only [Bool.false_eq_true, if_false] at HBB
        try clear halt
        try clear hlk
        try clear h6
        try clear hbn
        go_enter Tryz.func30, Tryz.ntmps30
        go_wp2_with (first | (go_at_call 57; refine (LQ.out _ B1.out).mono ?_; rintro e w3 ⟨rfl, hw⟩; rw [hw]; clear hw w3 LQ) | (go_at_call 22; refine (PQ.out _ B1.out).mono ?_; rintro e w4 ⟨v4, rfl, ho4, b4⟩; have x4 := HX.out _ b4; clear PQ) | (go_at_call 50; refine (BQ.out _).mono ?_; rintro e w3 ⟨rfl, hw⟩; rw [hw]; clear hw w3 BQ) | (go_at_call 58; refine (WQ.out _ B1.out).mono ?_; rintro e w5 ⟨v5, rfl, ho5, b5⟩; clear WQ))
        have BS : Hid (Below (w.alloc (.cells #[.int .i64 t.k, .int .i64 t.n, .slice a' t.ls.length c', .slice a t.ks.length c] TY)).heap.size (w.alloc (.cells #[.int .i64 t.k, .int .i64 t.n, .slice a' t.ls.length c', .slice a t.ks.length c] TY)) (w.alloc (.cells #[.int .i64 t.k, .int .i64 t.n, .slice a' t.ls.length c', .slice a t.ks.length c] TY))) := hid (Below.refl _ _)
        have OV : Hid (Ow (w.alloc (.cells #[.int .i64 t.k, .int .i64 t.n, .slice a' t.ls.length c', .slice a t.ks.length c] TY)) gv G1) := by rw [hG1]; exact (OG.out _ (bl_tr B1.out BS.out))
        have OBV : Hid (Ow (w.alloc (.cells #[.int .i64 t.k, .int .i64 t.n, .slice a' t.ls.length c', .slice a t.ks.length c] TY)) bv B') := by rw [← HBB.out]; exact OB.out _ (bl_tr B1.out BS.out)
        go_loopw [2, 7] (fun ov v wr => ∃ (i : Nat) (G' : List Int), v = .int .i64 i ∧ i ≤ t.ks.length ∧ Hid (Ow wr ov G') ∧ Hid (G'.Pairwise (· < ·)) ∧ Hid (∀ x, (x ∈ G ∨ t.fv (envOf B) x = true) ↔ (x ∈ G' ∨ Tt.fvL (t.ks.drop i) (envOf B') x = true)) ∧ Hid (G'.length + Tt.cntL (t.ks.drop i) ≤ G.length + t.cnt ∧ Tt.cntL (t.ks.drop i) ≤ Tt.cntL t.ks) ∧ Hid (Below (w.alloc (.cells #[.int .i64 t.k, .int .i64 t.n, .slice a' t.ls.length c', .slice a t.ks.length c] TY)).heap.size (w.alloc (.cells #[.int .i64 t.k, .int .i64 t.n, .slice a' t.ls.length c', .slice a t.ks.length c] TY)) wr ∧ Ow wr bv B')) (fun _ v _ => t.ks.length - (intOf v).toNat)
        case atStart => exact ⟨0, G1, rfl, Nat.zero_le _, OV, HP1, FIN, hid (by have := HL1.out; have := HQ.out; rw [List.drop_zero]; constructor <;> omega), hid ⟨BS.out, OBV.out⟩⟩
        case round =>
          obtain ⟨i, G', rfl, hil, hO, hP, hM, hN, hb⟩ := hrel
          have x3 := HX.out _ hb.out.1
          have BW := hid (bl_tr B1.out hb.out.1)
          by_cases hlt : i < t.ks.length
          · obtain ⟨x, hx⟩ : ∃ x, t.ks[i]? = some x := ⟨_, List.getElem?_eq_getElem hlt⟩
            obtain ⟨kb, ko, k1, k2, k3, k4, rfl, hcap, z0, z1, z2, z3, hT⟩ := (HL.out wr BW.out).load hx
            have HC2 : Hid (Tt.cntL (t.ks.drop i) = x.cnt + Tt.cntL (t.ks.drop (i + 1))) := Tt.cntL_drop hx
            have HQ2 := hid (HIH.out wr k1 k2 k3 k4 x _ _ B' G' hT hb.out.2 hO.out hP.out (by have := HQ.out; have := HBL.out; have := HC2.out; have := hN.out; omega) (by have := HQ.out; have := HC2.out; have := hN.out; omega))
            have HM2 : Hid (∀ y, (y ∈ G ∨ t.fv (envOf B) y = true) ↔ ((y ∈ G' ∨ x.fv (envOf B') y = true) ∨ Tt.fvL (t.ks.drop (i + 1)) (envOf B') y = true)) := fun y => by rw [hM.out y, Tt.fvL_drop hx]; simp only [Bool.or_eq_true, or_assoc]
            have hlt2 : (i : Int) < t.ks.length := by omega
            clear hx hT hM
            go_wp2_with (go_at_call 30; refine (HQ2.out).mono ?_; rintro e w3 ⟨v3, G3, rfl, ho3, hp3, hm3, hl3, b3⟩; clear HQ2)
            go_roundw
            case rel => exact ⟨i + 1, G3, by go_num, by omega, hid ho3, hid hp3, hid (fun y => by rw [HM2.out y, hm3 y]), hid (by have := hN.out; have := HC2.out; constructor <;> omega), hid ⟨bl_tr hb.out.1 b3, hb.out.2.below b3⟩⟩
            case measure => simp [intOf]; omega
          · have hd : t.ks.drop i = [] := List.drop_eq_nil_of_le (by omega)
            have hi2 : ¬ (i : Int) < t.ks.length := by omega
            have HM2 : Hid (∀ y, y ∈ G' ↔ (y ∈ G ∨ t.fv (envOf B) y = true)) := fun y => by rw [hM.out y, hd, Tt.fvL]; simp
            clear hd hM
            go_wp2
            go_ret
            first | exact ⟨_, G', rfl, hO.out, hP.out, HM2.out, by have := hN.out; omega, BW.out⟩ | exact ⟨_, rfl, G', hO.out, hP.out, HM2.out, by have := hN.out; omega, BW.out⟩
    · have g6 : (t.k == 6) = false := by simp [h6]
      cases hbn : t.binds with
      | true =>
        rw [hbn] at BQ HBB
        simp only [if_true] at HBB
        try clear halt
        try clear hlk
        try clear h6
        try clear hbn
        go_enter Tryz.func30, Tryz.ntmps30
        go_wp2_with (first | (go_at_call 57; refine (LQ.out _ B1.out).mono ?_; rintro e w3 ⟨rfl, hw⟩; rw [hw]; clear hw w3 LQ) | (go_at_call 22; refine (PQ.out _ B1.out).mono ?_; rintro e w4 ⟨v4, rfl, ho4, b4⟩; have x4 := HX.out _ b4; clear PQ) | (go_at_call 50; refine (BQ.out _).mono ?_; rintro e w3 ⟨rfl, hw⟩; rw [hw]; clear hw w3 BQ) | (go_at_call 58; refine (WQ.out _ B1.out).mono ?_; rintro e w5 ⟨v5, rfl, ho5, b5⟩; clear WQ))
        have BS : Hid (Below (w.alloc (.cells #[.int .i64 t.k, .int .i64 t.n, .slice a' t.ls.length c', .slice a t.ks.length c] TY)).heap.size (w.alloc (.cells #[.int .i64 t.k, .int .i64 t.n, .slice a' t.ls.length c', .slice a t.ks.length c] TY)) w5) := hid (b5)
        have OV : Hid (Ow w5 gv G1) := by rw [hG1]; exact (OG.out _ (bl_tr B1.out BS.out))
        have OBV : Hid (Ow w5 v5 B') := by rw [← HBB.out]; exact ho5
        go_loopw [2, 7] (fun ov v wr => ∃ (i : Nat) (G' : List Int), v = .int .i64 i ∧ i ≤ t.ks.length ∧ Hid (Ow wr ov G') ∧ Hid (G'.Pairwise (· < ·)) ∧ Hid (∀ x, (x ∈ G ∨ t.fv (envOf B) x = true) ↔ (x ∈ G' ∨ Tt.fvL (t.ks.drop i) (envOf B') x = true)) ∧ Hid (G'.length + Tt.cntL (t.ks.drop i) ≤ G.length + t.cnt ∧ Tt.cntL (t.ks.drop i) ≤ Tt.cntL t.ks) ∧ Hid (Below (w.alloc (.cells #[.int .i64 t.k, .int .i64 t.n, .slice a' t.ls.length c', .slice a t.ks.length c] TY)).heap.size (w.alloc (.cells #[.int .i64 t.k, .int .i64 t.n, .slice a' t.ls.length c', .slice a t.ks.length c] TY)) wr ∧ Ow wr v5 B')) (fun _ v _ => t.ks.length - (intOf v).toNat)
        case atStart => exact ⟨0, G1, rfl, Nat.zero_le _, OV, HP1, FIN, hid (by have := HL1.out; have := HQ.out; rw [List.drop_zero]; constructor <;> omega), hid ⟨BS.out, OBV.out⟩⟩
        case round =>
          obtain ⟨i, G', rfl, hil, hO, hP, hM, hN, hb⟩ := hrel
          have x3 := HX.out _ hb.out.1
          have BW := hid (bl_tr B1.out hb.out.1)
          by_cases hlt : i < t.ks.length
          · obtain ⟨x, hx⟩ : ∃ x, t.ks[i]? = some x := ⟨_, List.getElem?_eq_getElem hlt⟩
            obtain ⟨kb, ko, k1, k2, k3, k4, rfl, hcap, z0, z1, z2, z3, hT⟩ := (HL.out wr BW.out).load hx
            have HC2 : Hid (Tt.cntL (t.ks.drop i) = x.cnt + Tt.cntL (t.ks.drop (i + 1))) := Tt.cntL_drop hx
            have HQ2 := hid (HIH.out wr k1 k2 k3 k4 x _ _ B' G' hT hb.out.2 hO.out hP.out (by have := HQ.out; have := HBL.out; have := HC2.out; have := hN.out; omega) (by have := HQ.out; have := HC2.out; have := hN.out; omega))
            have HM2 : Hid (∀ y, (y ∈ G ∨ t.fv (envOf B) y = true) ↔ ((y ∈ G' ∨ x.fv (envOf B') y = true) ∨ Tt.fvL (t.ks.drop (i + 1)) (envOf B') y = true)) := fun y => by rw [hM.out y, Tt.fvL_drop hx]; simp only [Bool.or_eq_true, or_assoc]
            have hlt2 : (i : Int) < t.ks.length := by omega
            clear hx hT hM
            go_wp2_with (go_at_call 30; refine (HQ2.out).mono ?_; rintro e w3 ⟨v3, G3, rfl, ho3, hp3, hm3, hl3, b3⟩; clear HQ2)
            go_roundw
            case rel => exact ⟨i + 1, G3, by go_num, by omega, hid ho3, hid hp3, hid (fun y => by rw [HM2.out y, hm3 y]), hid (by have := hN.out; have := HC2.out; constructor <;> omega), hid ⟨bl_tr hb.out.1 b3, hb.out.2.below b3⟩⟩
            case measure => simp [intOf]; omega
          · have hd : t.ks.drop i = [] := List.drop_eq_nil_of_le (by omega)
            have hi2 : ¬ (i : Int) < t.ks.length := by omega
            have HM2 : Hid (∀ y, y ∈ G' ↔ (y ∈ G ∨ t.fv (envOf B) y = true)) := fun y => by rw [hM.out y, hd, Tt.fvL]; simp
            clear hd hM
            go_wp2
            go_ret
            first | exact ⟨_, G', rfl, hO.out, hP.out, HM2.out, by have := hN.out; omega, BW.out⟩ | exact ⟨_, rfl, G', hO.out, hP.out, HM2.out, by have := hN.out; omega, BW.out⟩
      | false =>
        rw [hbn] at BQ HBB
        simp only [Bool.false_eq_true, if_false] at HBB
        try clear halt
        try clear hlk
        try clear h6
        try clear hbn
        go_enter Tryz.func30, Tryz.ntmps30
        go_wp2_with (first | (go_at_call 57; refine (LQ.out _ B1.out).mono ?_; rintro e w3 ⟨rfl, hw⟩; rw [hw]; clear hw w3 LQ) | (go_at_call 22; refine (PQ.out _ B1.out).mono ?_; rintro e w4 ⟨v4, rfl, ho4, b4⟩; have x4 := HX.out _ b4; clear PQ) | (go_at_call 50; refine (BQ.out _).mono ?_; rintro e w3 ⟨rfl, hw⟩; rw [hw]; clear hw w3 BQ) | (go_at_call 58; refine (WQ.out _ B1.out).mono ?_; rintro e w5 ⟨v5, rfl, ho5, b5⟩; clear WQ))
        have BS : Hid (Below (w.alloc (.cells #[.int .i64 t.k, .int .i64 t.n, .slice a' t.ls.length c', .slice a t.ks.length c] TY)).heap.size (w.alloc (.cells #[.int .i64 t.k, .int .i64 t.n, .slice a' t.ls.length c', .slice a t.ks.length c] TY)) (w.alloc (.cells #[.int .i64 t.k, .int .i64 t.n, .slice a' t.ls.length c', .slice a t.ks.length c] TY))) := hid (Below.refl _ _)
        have OV : Hid (Ow (w.alloc (.cells #[.int .i64 t.k, .int .i64 t.n, .slice a' t.ls.length c', .slice a t.ks.length c] TY)) gv G1) := by rw [hG1]; exact (OG.out _ (bl_tr B1.out BS.out))
        have OBV : Hid (Ow (w.alloc (.cells #[.int .i64 t.k, .int .i64 t.n, .slice a' t.ls.length c', .slice a t.ks.length c] TY)) bv B') := by rw [← HBB.out]; exact OB.out _ (bl_tr B1.out BS.out)
        go_loopw [2, 7] (fun ov v wr => ∃ (i : Nat) (G' : List Int), v = .int .i64 i ∧ i ≤ t.ks.length ∧ Hid (Ow wr ov G') ∧ Hid (G'.Pairwise (· < ·)) ∧ Hid (∀ x, (x ∈ G ∨ t.fv (envOf B) x = true) ↔ (x ∈ G' ∨ Tt.fvL (t.ks.drop i) (envOf B') x = true)) ∧ Hid (G'.length + Tt.cntL (t.ks.drop i) ≤ G.length + t.cnt ∧ Tt.cntL (t.ks.drop i) ≤ Tt.cntL t.ks) ∧ Hid (Below (w.alloc (.cells #[.int .i64 t.k, .int .i64 t.n, .slice a' t.ls.length c', .slice a t.ks.length c] TY)).heap.size (w.alloc (.cells #[.int .i64 t.k, .int .i64 t.n, .slice a' t.ls.length c', .slice a t.ks.length c] TY)) wr ∧ Ow wr bv B')) (fun _ v _ => t.ks.length - (intOf v).toNat)
        case atStart => exact ⟨0, G1, rfl, Nat.zero_le _, OV, HP1, FIN, hid (by have := HL1.out; have := HQ.out; rw [List.drop_zero]; constructor <;> omega), hid ⟨BS.out, OBV.out⟩⟩
        case round =>
          obtain ⟨i, G', rfl, hil, hO, hP, hM, hN, hb⟩ := hrel
          have x3 := HX.out _ hb.out.1
          have BW := hid (bl_tr B1.out hb.out.1)
          by_cases hlt : i < t.ks.length
          · obtain ⟨x, hx⟩ : ∃ x, t.ks[i]? = some x := ⟨_, List.getElem?_eq_getElem hlt⟩
            obtain ⟨kb, ko, k1, k2, k3, k4, rfl, hcap, z0, z1, z2, z3, hT⟩ := (HL.out wr BW.out).load hx
            have HC2 : Hid (Tt.cntL (t.ks.drop i) = x.cnt + Tt.cntL (t.ks.drop (i + 1))) := Tt.cntL_drop hx
            have HQ2 := hid (HIH.out wr k1 k2 k3 k4 x _ _ B' G' hT hb.out.2 hO.out hP.out (by have := HQ.out; have := HBL.out; have := HC2.out; have := hN.out; omega) (by have := HQ.out; have := HC2.out; have := hN.out; omega))
            have HM2 : Hid (∀ y, (y ∈ G ∨ t.fv (envOf B) y = true) ↔ ((y ∈ G' ∨ x.fv (envOf B') y = true) ∨ Tt.fvL (t.ks.drop (i + 1)) (envOf B') y = true)) := fun y => by rw [hM.out y, Tt.fvL_drop hx]; simp only [Bool.or_eq_true, or_assoc]
            have hlt2 : (i : Int) < t.ks.length := by omega
            clear hx hT hM
            go_wp2_with (go_at_call 30; refine (HQ2.out).mono ?_; rintro e w3 ⟨v3, G3, rfl, ho3, hp3, hm3, hl3, b3⟩; clear HQ2)
            go_roundw
            case rel => exact ⟨i + 1, G3, by go_num, by omega, hid ho3, hid hp3, hid (fun y => by rw [HM2.out y, hm3 y]), hid (by have := hN.out; have := HC2.out; constructor <;> omega), hid ⟨bl_tr hb.out.1 b3, hb.out.2.below b3⟩⟩
            case measure => simp [intOf]; omega
          · have hd : t.ks.drop i = [] := List.drop_eq_nil_of_le (by omega)
            have hi2 : ¬ (i : Int) < t.ks.length := by omega
            have HM2 : Hid (∀ y, y ∈ G' ↔ (y ∈ G ∨ t.fv (envOf B) y = true)) := fun y => by rw [hM.out y, hd, Tt.fvL]; simp
            clear hd hM
            go_wp2
            go_ret
            first | exact ⟨_, G', rfl, hO.out, hP.out, HM2.out, by have := hN.out; omega, BW.out⟩ | exact ⟨_, rfl, G', hO.out, hP.out, HM2.out, by have := hN.out; omega, BW.out⟩
theorem rfree_any : ∀ n, RFreeOf n
  | 0 => fun w a' c' a c t bv gv B G h => h.elim
  | n + 1 => rfree_step n (rfree_any n)

set_option maxHeartbeats 1000000 in
set_option maxRecDepth 100000 in
theorem RFreeTypes_any (w : World) (n : Nat) (us : List Value) (t : Tt) (h : TAt w Any n us t) (hc : t.cnt ≤ 1099511627776) : Calls Tryz.prog 11 #[.agg us.toArray] w fun e w' => ∃ v l, e = .returned v ∧ Ow w' v l ∧ Tt.IsFree (t.fv []) l ∧ Below w.heap.size w w' := by
  obtain ⟨a', c', a, c, rfl⟩ := h.form
  have XA : Hid (Arr (w.alloc (.cells #[.int .i64 t.k, .int .i64 t.n, .slice a' t.ls.length c', .slice a t.ks.length c] TY)) w.heap.size TY [.int .i64 t.k, .int .i64 t.n, .slice a' t.ls.length c', .slice a t.ks.length c]) := ⟨heap_alloc_at _ _⟩
  have B1 : Hid (Below w.heap.size w (w.alloc (.cells #[.int .i64 t.k, .int .i64 t.n, .slice a' t.ls.length c', .slice a t.ks.length c] TY))) := bl_alloc (Below.refl _ _) _
  have FQ := hid (rfree_any n (w.alloc (.cells #[.int .i64 t.k, .int .i64 t.n, .slice a' t.ls.length c', .slice a t.ks.length c] TY)) a' c' a c t (.slice none 0 0) (.slice none 0 0) [] [] (h.below B1.out) (Ow.nil _) (Ow.nil _) List.Pairwise.nil (by simpa using hc) (by simpa using hc))
  have x0 := XA.out.cell
  clear h hc
  go_enter Tryz.func11, Tryz.ntmps11
  go_wp2_with (go_at_call 30; refine (FQ.out).mono ?_; rintro e w3 ⟨v3, G3, rfl, ho3, hp3, hm3, hl3, b3⟩; clear FQ)
  go_ret
  exact ⟨v3, G3, rfl, ho3, ⟨hp3, fun x => by rw [hm3 x]; simp; rfl⟩, bl_tr B1.out b3⟩
theorem sorted_eq : ∀ (l l' : List Int), l.Pairwise (· < ·) → l'.Pairwise (· < ·) → (∀ x, x ∈ l ↔ x ∈ l') → l = l'
  | [], [], _, _, _ => rfl
  | [], y :: r', _, _, h => absurd ((h y).2 (by simp)) (by simp)
  | x :: r, [], _, _, h => absurd ((h x).1 (by simp)) (by simp)
  | x :: r, y :: r', hp, hp', h => by
    obtain ⟨h1, h2⟩ := List.pairwise_cons.1 hp
    obtain ⟨h1', h2'⟩ := List.pairwise_cons.1 hp'
    have hxy : x = y := by
      rcases List.mem_cons.1 ((h x).1 (by simp)) with e | hx
      · exact e
      · rcases List.mem_cons.1 ((h y).2 (by simp)) with e | hy
        · exact e.symm
        · have := h1 y hy; have := h1' x hx; omega
    subst hxy
    congr 1
    refine sorted_eq r r' h2 h2' (fun z => ⟨fun hz => ?_, fun hz => ?_⟩)
    · rcases List.mem_cons.1 ((h z).1 (List.mem_cons_of_mem _ hz)) with e | q
      · have := h1 z hz; omega
      · exact q
    · rcases List.mem_cons.1 ((h z).2 (List.mem_cons_of_mem _ hz)) with e | q
      · have := h1' z hz; omega
      · exact q
theorem Tt.IsFree.eq {S : Int → Bool} {l l' : List Int} (h : Tt.IsFree S l) (h' : Tt.IsFree S l') : l = l' := sorted_eq l l' h.1 h'.1 (fun x => by rw [h.2 x, h'.2 x])
end Go.Proofs.YtfeppchgmobfpaaGreatDoor
