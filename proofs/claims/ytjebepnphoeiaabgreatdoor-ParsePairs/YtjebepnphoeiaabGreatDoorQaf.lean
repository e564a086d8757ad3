/- Pieces: LexRead. -/
import Derived.Deep.CutRange
import Derived.Lib.ParseIntB
import Derived.Laws.ResultCell
import Derived.Test.YtjebepnphoeiaabGreatDoorQad
import Derived.Test.YtjebepnphoeiaabGreatDoorQae
namespace Go.Proofs.YtjebepnphoeiaabGreatDoor
open Go.RowKit
set_option linter.unusedVariables false

def Drawn (w w' : World) : Prop := ∃ n, w' = w.drewN n
theorem Drawn.refl (w : World) : Drawn w w := ⟨0, rfl⟩
theorem Drawn.on {w w' : World} (h : Drawn w w') (n : Nat) : Drawn w (w'.drewN n) := by obtain ⟨m, rfl⟩ := h; exact ⟨m + n, World.drewN_drewN _ _ _⟩

theorem lxBd {B : Nat} {a w : World} (h : Below B a w) (n : Nat) : Below B a (w.drewN n) := h.trans ⟨rfl, rfl, rfl, Nat.le_refl _, fun _ _ => rfl⟩
theorem lxBa {a w : World} (h : Below a.heap.size a w) (o : Obj) : Below a.heap.size a (w.alloc o) := h.alloc h.size o
theorem lxBytes {w w' : World} {e : TypeId} (h : w' = w ∨ ∃ t, w' = Lib.bytesWorld w e t) : Below w.heap.size w w' := by
 rcases h with rfl | ⟨t, rfl⟩
 ·
  exact Below.refl _ _
 ·
  exact Lib.bytesWorld_below _ _ _
theorem lxLt {w : World} {b i : Nat} {v : Value} (h : w.cell? ⟨b, i, none⟩ = some v) : b < w.heap.size := by
 rcases Nat.lt_or_ge b w.heap.size with hb | hb
 ·
  exact hb
 ·
  exfalso
  have : w.heap[b]? = none := Array.getElem?_eq_none hb
  simp [World.cell?, this] at h
theorem Lx.next_long {l : List UInt8} {k : Nat} (hk : (Lx.begin l).1 = k) (h : k = 1 ∨ k = 2 ∨ k = 5) (hl : 32 < (Lx.text l).length) : Lx.next l = .bad 12 := by
 unfold Lx.next; rcases h with rfl | rfl | rfl <;> simp [hk, hl]
theorem Lx.next_id {l : List UInt8} {k : Nat} (hk : (Lx.begin l).1 = k) (h : k = 2 ∨ k = 5) (hl : ¬ 32 < (Lx.text l).length) : Lx.next l = .good k 0 := by
 unfold Lx.next; rcases h with rfl | rfl <;> simp [hk, hl]
theorem Lx.next_word {l : List UInt8} (hk : (Lx.begin l).1 = 1) (hl : ¬ 32 < (Lx.text l).length) {k : Nat} (h : (if Nm.words.contains (Lx.text l) = true then 3 else 1) = k) : Lx.next l = .good k 0 := by
 unfold Lx.next; simp only [hk]
 rw [if_neg (by decide), if_neg (by decide), if_neg (by decide), if_neg hl, ← h]
 simp
theorem Lx.next_int {l : List UInt8} (hk : (Lx.begin l).1 = 4) : Lx.next l = if Lx.num 0 (Lx.text l) ≤ 9223372036854775807 then .good 4 (Lx.num 0 (Lx.text l)) else .bad 1 := by
 unfold Lx.next; simp only [hk]
 rw [if_neg (by decide), if_neg (by decide), if_pos trivial]
theorem lxB4 {B b : Nat} {a w : World} (h : Below B a w) (hb : B ≤ b) (u0 u1 u2 u3 : Value) :
  Below B a ((((w.setCell ⟨b, 0, none⟩ u0).setCell ⟨b, 1, none⟩ u1).setCell ⟨b, 2, none⟩ u2).setCell ⟨b, 3, none⟩ u3) :=
 (((h.setCell hb u0).setCell hb u1).setCell hb u2).setCell hb u3
theorem Lx.text_dig {l : List UInt8} {m : Nat} (h : Lx.begin l = (4, m)) : ((Lx.text l).all fun c => Nm.dig (c.toNat : Int)) = true ∧ Lx.text l ≠ [] := by
 cases l with
 | nil => cases h
 | cons c t =>
  have hd : Nm.dig (c.toNat : Int) = true ∧ m = 1 := by
   rw [Lx.begin_cons] at h
   split at h
   ·
    cases h
   ·
    split at h
    ·
     cases h
    ·
     split at h
     ·
      next hd => exact ⟨hd, by cases h; rfl⟩
     ·
      split at h
      ·
       cases h
      ·
       split at h <;> cases h
  obtain ⟨hd, rfl⟩ := hd
  unfold Lx.text
  rw [h]
  show ((c :: t.takeWhile (Lx.goes 4)).all _ = true) ∧ (c :: t.takeWhile (Lx.goes 4)) ≠ []
  refine ⟨?_, by simp⟩
  rw [List.all_cons, hd, Bool.true_and, List.all_eq_true]
  intro x hx
  have : ∀ (t : List UInt8), x ∈ t.takeWhile (Lx.goes 4) → Lx.goes 4 x = true := by
   intro t
   induction t with
   | nil => intro h; cases h
   | cons a t ih =>
    rw [List.takeWhile_cons]
    split
    ·
     next ha =>
     intro h
     rcases List.mem_cons.1 h with rfl | h
     ·
      exact ha
     ·
      exact ih h
    ·
     intro h; cases h
  exact this t hx
theorem Lx.num_ge : ∀ (l : List UInt8) (v : Nat), v ≤ Lx.num v l
 | [], v => Nat.le_refl _
 | c :: t, v => by have := Lx.num_ge t (10 * v + (c.toNat - 48)); show v ≤ Lx.num (10 * v + (c.toNat - 48)) t; omega
theorem Lx.num_uint (M : Nat) (hM : M < 18446744073709551616) : ∀ (l : List UInt8) (v : Nat), (l.all fun c => Nm.dig (c.toNat : Int)) = true → v ≤ M →
  Lib.parseUintM M v l = if Lx.num v l ≤ M then .ok (Lx.num v l) else .range
 | [], v, h, hv => by
  show _ = if v ≤ M then _ else _
  rw [if_pos hv]; rfl
 | c :: t, v, h, hv => by
  rw [List.all_cons, Bool.and_eq_true] at h
  have hc : 48 ≤ c.toNat ∧ c.toNat ≤ 57 := by have := h.1; unfold Nm.dig at this; simp at this; omega
  have hg := Lx.num_ge t (10 * v + (c.toNat - 48))
  show _ = if Lx.num (10 * v + (c.toNat - 48)) t ≤ M then Lib.NumEnd.ok (Lx.num (10 * v + (c.toNat - 48)) t) else _
  rw [Lib.parseUintM, if_pos hc]
  by_cases h1 : 1844674407370955162 ≤ v
  ·
   rw [if_pos h1, if_neg (by omega)]
  ·
   rw [if_neg h1]
   by_cases h2 : M < v * 10 + (c.toNat - 48)
   ·
    rw [if_pos h2, if_neg (by omega)]
   ·
    rw [if_neg h2, show v * 10 + (c.toNat - 48) = 10 * v + (c.toNat - 48) by omega, Lx.num_uint M hM t _ h.2 (by omega)]
theorem Lx.num_int (l : List UInt8) (hne : l ≠ []) (h : (l.all fun c => Nm.dig (c.toNat : Int)) = true) :
    Lib.parseIntB 64 l = if Lx.num 0 l ≤ 9223372036854775807 then .ok (Lx.num 0 l : Int) else .range := by
  cases l with
  | nil => exact absurd rfl hne
  | cons c t =>
    have hc : 48 ≤ c.toNat ∧ c.toNat ≤ 57 := by
      rw [List.all_cons, Bool.and_eq_true] at h
      have := h.1; unfold Nm.dig at this; simp at this; omega
    have hu := Lx.num_uint (2 ^ 64 - 1) (by decide) (c :: t) 0 h (by decide)
    unfold Lib.parseIntB Lib.parseUintB
    simp only
    rw [if_neg (c := c.toNat = 43 ∨ c.toNat = 45) (by omega), if_neg (by simp), hu]
    by_cases h1 : Lx.num 0 (c :: t) ≤ 2 ^ 64 - 1
    · rw [if_pos h1]
      simp only
      by_cases h2 : Lx.num 0 (c :: t) ≤ 9223372036854775807
      · rw [if_pos h2, if_neg (by rintro ⟨-, h⟩; have : (2 : Nat) ^ (64 - 1) = 9223372036854775808 := by decide
                                  omega), if_neg (by rintro ⟨h, -⟩; omega), if_neg (by omega)]
      · rw [if_neg h2, if_pos ⟨by omega, by have : (2 : Nat) ^ (64 - 1) = 9223372036854775808 := by decide
                                            omega⟩]
    · rw [if_neg h1, if_neg (by have : (2 : Nat) ^ 64 - 1 = 18446744073709551615 := by decide
                                omega)]

theorem Lx.run_at (s : ByteArray) (k j : Nat) (hj : j < s.size) : (s.data.toList.drop j).takeWhile (Lx.goes k) = if Lx.goes k s[j] = true then s[j] :: (s.data.toList.drop (j + 1)).takeWhile (Lx.goes k) else [] := by
 rw [Nm.drop_cons s j hj, List.takeWhile_cons]

def Lx.nextV (l : List UInt8) : Value := match Lx.next l with
 | .bad e => .tuple #[.agg #[.int .i64 0, .string ⟨#[]⟩, .int .i64 0, .int .i64 0], .int .i64 e]
 | .good k n => .tuple #[.agg #[.int .i64 k, .string ⟨(Lx.text l).toArray⟩, .int .i64 n, .int .i64 0], .int .i64 0]
theorem Lx.bits_cases (c : Int) : (Lx.bits c = 54 ∧ Nm.dig c = true ∧ Nm.body c = true) ∨ (Lx.bits c = 38 ∧ Nm.dig c = false ∧ Nm.low c = true ∧ Nm.body c = true) ∨ (Lx.bits c = 6 ∧ Nm.dig c = false ∧ Nm.low c = false ∧ Nm.body c = true) ∨ (Lx.bits c = 0 ∧ Nm.dig c = false ∧ Nm.low c = false ∧ Nm.body c = false) := by
 unfold Lx.bits
 cases h1 : Nm.dig c with
 | true => exact .inl ⟨rfl, rfl, by unfold Nm.body; rw [h1]; simp⟩
 | false =>
  cases h2 : Nm.low c with
  | true => exact .inr (.inl ⟨rfl, rfl, rfl, by unfold Nm.body Nm.letter; rw [h2]; simp⟩)
  | false =>
   cases h3 : Nm.body c with
   | true => exact .inr (.inr (.inl ⟨rfl, rfl, rfl, rfl⟩))
   | false => exact .inr (.inr (.inr ⟨rfl, rfl, rfl, rfl⟩))
theorem Lx.within_goes (K : Nat) (S : Int) (h : (K = 1 ∧ S = 2) ∨ (K = 2 ∧ S = 4) ∨ (K = 4 ∧ S = 16) ∨ (K = 5 ∧ S = 32) ∨ (K = 6 ∧ S = 64)) (x : UInt8) :
  ∃ v, Lx.bits (x.toNat : Int) = v ∧ (Go.bits .and .i64 v S != 0) = Lx.goes K x := by
 rcases Lx.bits_cases (x.toNat : Int) with ⟨e, a, b⟩ | ⟨e, a, b, c⟩ | ⟨e, a, b, c⟩ | ⟨e, a, b, c⟩ <;> refine ⟨_, e, ?_⟩ <;>
  rcases h with ⟨rfl, rfl⟩ | ⟨rfl, rfl⟩ | ⟨rfl, rfl⟩ | ⟨rfl, rfl⟩ | ⟨rfl, rfl⟩ <;> (unfold Lx.goes; simp [*]; try decide)
theorem Lx.pre (s : ByteArray) (j : Nat) : (⟨(s.data.toList.take j).toArray⟩ : ByteArray) = s.extract 0 j := by
 rw [show s.extract 0 j = ⟨(s.extract 0 j).data⟩ from rfl]
 congr 1
 apply Array.toList_inj.1
 rw [ByteArray.data_extract, Array.toList_extract, List.extract_eq_take_drop, List.drop_zero, Nat.sub_zero]
theorem lxWithin_is {c v : Int} (h : Lx.bits c = v) (w : World) : Calls Tryz.prog 96 #[.int .u8 c] w fun e w' => e = .returned (.int .i64 v) ∧ w' = w := by
 refine (lxWithin_any c w).mono ?_
 rintro e w' ⟨rfl, rfl⟩
 exact ⟨ret_int h, rfl⟩


set_option maxHeartbeats 2000000 in
theorem lxRead_1 (s : ByteArray) (h0 : 0 < s.size) (hs : s.size ≤ 4096) (m : Nat) (hB0 : Lx.begin s.data.toList = (1, m)) (hb : ∀ w, Calls Tryz.prog 95 #[.string s] w fun e w' => e = .returned (.tuple #[.int .i64 ((1 : Nat) : Int), .int .i64 (m : Int)]) ∧ w' = w) (w : World) :
  Calls Tryz.prog 62 #[.string s] w fun e w' => e = .returned (Lx.nextV s.data.toList) ∧ Below w.heap.size w w' := by
 have hbl := Lx.begin_le s.data.toList
 rw [hB0, Nm.len] at hbl
 have hm1 : 1 ≤ m := hbl.2.2.1 (by simp)
 have hm2 : m ≤ s.size := hbl.1
 have H1 : Hid (Lx.text s.data.toList = s.data.toList.take m ++ (s.data.toList.drop m).takeWhile (Lx.goes 1)) := by
  show _ = _; unfold Lx.text; rw [hB0]
 have HN : Hid (∀ j, j ≤ s.size → Lx.text s.data.toList = s.data.toList.take j → (Lx.begin s.data.toList).1 = 1 ∧ (Lx.text s.data.toList).length = j ∧ (⟨(Lx.text s.data.toList).toArray⟩ : ByteArray) = s.extract 0 j) := fun j hj e => by
  refine ⟨by rw [hB0], ?_, ?_⟩
  ·
   rw [e, List.length_take, Nm.len]; omega
  ·
   rw [e, Lx.pre]
 clear hbl hB0
 go_enter Tryz.func62, Tryz.ntmps62
 go_wp2_with (go_at_call 95; refine (hb _).mono ?_; rintro e w1 ⟨rfl, hw1⟩; rw [hw1]; clear hw1 w1)
 generalize hW0 : w.alloc _ = W0
 go_loopw [5] (fun v wr => ∃ j : Nat, v = .int .i64 j ∧ 1 ≤ j ∧ j ≤ s.size ∧ Hid (Lx.text s.data.toList = s.data.toList.take j ++ (s.data.toList.drop j).takeWhile (Lx.goes 1)) ∧ Drawn W0 wr) (fun v _ => s.size - (intOf v).toNat)
 case atStart => exact ⟨m, rfl, hm1, hm2, H1, Drawn.refl _⟩
 case round =>
  obtain ⟨j, rfl, hj1, hj, hx, hD⟩ := hrel
  clear hm1 hm2 H1 hb
  by_cases hlt : j < s.size
  ·
   obtain ⟨v, hv, ha⟩ := Lx.within_goes 1 2 (by omega) s[j]
   have hx2 := hx.out
   rw [Lx.run_at s 1 j hlt] at hx2
   have hc := Lx.b_lt hlt
   rw [hc] at hv
   cases hg : Lx.goes 1 s[j] with
   | true =>
    rw [if_pos hg] at hx2
    have HX : Hid (Lx.text s.data.toList = s.data.toList.take (j + 1) ++ (s.data.toList.drop (j + 1)).takeWhile (Lx.goes 1)) := by
     show _ = _
     rw [hx2, List.take_add_one, List.getElem?_eq_getElem (by rw [Nm.len]; exact hlt), List.append_assoc]; rfl
    rw [hg] at ha
    clear hx hx2 hg HN
    go_wp2
    go_quiet (first | (go_at_call 96; refine Calls.quiet_of_same (lxWithin_is hv _)))
    go_wp2
    go_roundw
    case rel => exact ⟨j + 1, by go_num, by omega, by omega, HX, hD.on _⟩
    case measure => simp [intOf]; omega
   | false =>
    rw [if_neg (by rw [hg]; simp), List.append_nil] at hx2
    rw [hg] at ha
    obtain ⟨n1, n2, n3⟩ := HN.out j hj hx2
    clear hx hx2 hg HN
    have hres : Nm.reserved (s.extract 0 j) = Nm.words.contains (Lx.text s.data.toList) := by rw [← n3]; rfl
    by_cases h32 : 32 < j
    ·
     have HV : Hid (Lx.nextV s.data.toList = .tuple #[.agg #[.int .i64 0, .string ⟨#[]⟩, .int .i64 0, .int .i64 0], .int .i64 12]) := by
      show _ = _
      have : Lx.next s.data.toList = .bad 12 := Lx.next_long n1 (by omega) (by omega)
      unfold Lx.nextV; rw [this]
     clear n1 n2 n3 hres
     go_wp2
     go_quiet (first | (go_at_call 96; refine Calls.quiet_of_same (lxWithin_is hv _)))
     obtain ⟨n, rfl⟩ := hD
     subst hW0
     go_wp2
     refine bodyPost_ret (v := .tuple #[.agg #[.int .i64 0, .string ⟨#[]⟩, .int .i64 0, .int .i64 0], .int .i64 12]) (by rw [results_cell_tmp rfl]; simp [go_sem]) rfl ⟨by rw [HV.out], ?_⟩
     exact lxBa (lxB4 (lxBd (lxBa (Below.refl _ _) _) _) (Nat.le_refl _) _ _ _ _) _
    ·
     cases hw : Nm.words.contains (Lx.text s.data.toList) with
     | true =>
      have HV : Hid (Lx.nextV s.data.toList = .tuple #[.agg #[.int .i64 3, .string (s.extract 0 j), .int .i64 0, .int .i64 0], .int .i64 0]) := by
       show _ = _
       have : Lx.next s.data.toList = .good 3 0 := Lx.next_word n1 (by omega) (by rw [hw]; rfl)
       unfold Lx.nextV; rw [this]; show Value.tuple #[.agg #[_, .string ⟨(Lx.text s.data.toList).toArray⟩, _, _], _] = _; rw [n3]; rfl
      rw [hw] at hres
      clear n1 n2 n3 hw
      go_wp2
      go_quiet (first | (go_at_call 96; refine Calls.quiet_of_same (lxWithin_is hv _)))
      obtain ⟨n, rfl⟩ := hD
      subst hW0
      go_wp2_with (go_at_call 98; refine (reserved_any _ _).mono ?_; rw [hres]; rintro e w1 ⟨rfl, hw1⟩; rw [hw1]; clear hw1 w1)
      refine bodyPost_ret (v := .tuple #[.agg #[.int .i64 3, .string (s.extract 0 j), .int .i64 0, .int .i64 0], .int .i64 0]) (by rw [results_cell_tmp rfl]; simp [go_sem]) rfl ⟨by rw [HV.out], ?_⟩
      exact lxBa (lxB4 (lxBd (lxBa (Below.refl _ _) _) _) (Nat.le_refl _) _ _ _ _) _
     | false =>
      have HV : Hid (Lx.nextV s.data.toList = .tuple #[.agg #[.int .i64 1, .string (s.extract 0 j), .int .i64 0, .int .i64 0], .int .i64 0]) := by
       show _ = _
       have : Lx.next s.data.toList = .good 1 0 := Lx.next_word n1 (by omega) (by rw [hw]; rfl)
       unfold Lx.nextV; rw [this]; show Value.tuple #[.agg #[_, .string ⟨(Lx.text s.data.toList).toArray⟩, _, _], _] = _; rw [n3]; rfl
      rw [hw] at hres
      clear n1 n2 n3 hw
      go_wp2
      go_quiet (first | (go_at_call 96; refine Calls.quiet_of_same (lxWithin_is hv _)))
      obtain ⟨n, rfl⟩ := hD
      subst hW0
      go_wp2_with (go_at_call 98; refine (reserved_any _ _).mono ?_; rw [hres]; rintro e w1 ⟨rfl, hw1⟩; rw [hw1]; clear hw1 w1)
      refine bodyPost_ret (v := .tuple #[.agg #[.int .i64 1, .string (s.extract 0 j), .int .i64 0, .int .i64 0], .int .i64 0]) (by rw [results_cell_tmp rfl]; simp [go_sem]) rfl ⟨by rw [HV.out], ?_⟩
      exact lxBa (lxB4 (lxBd (lxBa (Below.refl _ _) _) _) (Nat.le_refl _) _ _ _ _) _
  ·
   have hx2 := hx.out
   rw [List.drop_eq_nil_of_le (by rw [Nm.len]; omega), List.takeWhile_nil, List.append_nil] at hx2
   obtain ⟨n1, n2, n3⟩ := HN.out j hj hx2
   clear hx hx2 HN
   have hres : Nm.reserved (s.extract 0 j) = Nm.words.contains (Lx.text s.data.toList) := by rw [← n3]; rfl
   by_cases h32 : 32 < j
   ·
    have HV : Hid (Lx.nextV s.data.toList = .tuple #[.agg #[.int .i64 0, .string ⟨#[]⟩, .int .i64 0, .int .i64 0], .int .i64 12]) := by
     show _ = _
     have : Lx.next s.data.toList = .bad 12 := Lx.next_long n1 (by omega) (by omega)
     unfold Lx.nextV; rw [this]
    clear n1 n2 n3 hres
    go_wp2
    go_quiet (fail)
    obtain ⟨n, rfl⟩ := hD
    subst hW0
    go_wp2
    refine bodyPost_ret (v := .tuple #[.agg #[.int .i64 0, .string ⟨#[]⟩, .int .i64 0, .int .i64 0], .int .i64 12]) (by rw [results_cell_tmp rfl]; simp [go_sem]) rfl ⟨by rw [HV.out], ?_⟩
    exact lxBa (lxB4 (lxBd (lxBa (Below.refl _ _) _) _) (Nat.le_refl _) _ _ _ _) _
   ·
    cases hw : Nm.words.contains (Lx.text s.data.toList) with
    | true =>
     have HV : Hid (Lx.nextV s.data.toList = .tuple #[.agg #[.int .i64 3, .string (s.extract 0 j), .int .i64 0, .int .i64 0], .int .i64 0]) := by
      show _ = _
      have : Lx.next s.data.toList = .good 3 0 := Lx.next_word n1 (by omega) (by rw [hw]; rfl)
      unfold Lx.nextV; rw [this]; show Value.tuple #[.agg #[_, .string ⟨(Lx.text s.data.toList).toArray⟩, _, _], _] = _; rw [n3]; rfl
     rw [hw] at hres
     clear n1 n2 n3 hw
     go_wp2
     go_quiet (fail)
     obtain ⟨n, rfl⟩ := hD
     subst hW0
     go_wp2_with (go_at_call 98; refine (reserved_any _ _).mono ?_; rw [hres]; rintro e w1 ⟨rfl, hw1⟩; rw [hw1]; clear hw1 w1)
     refine bodyPost_ret (v := .tuple #[.agg #[.int .i64 3, .string (s.extract 0 j), .int .i64 0, .int .i64 0], .int .i64 0]) (by rw [results_cell_tmp rfl]; simp [go_sem]) rfl ⟨by rw [HV.out], ?_⟩
     exact lxBa (lxB4 (lxBd (lxBa (Below.refl _ _) _) _) (Nat.le_refl _) _ _ _ _) _
    | false =>
     have HV : Hid (Lx.nextV s.data.toList = .tuple #[.agg #[.int .i64 1, .string (s.extract 0 j), .int .i64 0, .int .i64 0], .int .i64 0]) := by
      show _ = _
      have : Lx.next s.data.toList = .good 1 0 := Lx.next_word n1 (by omega) (by rw [hw]; rfl)
      unfold Lx.nextV; rw [this]; show Value.tuple #[.agg #[_, .string ⟨(Lx.text s.data.toList).toArray⟩, _, _], _] = _; rw [n3]; rfl
     rw [hw] at hres
     clear n1 n2 n3 hw
     go_wp2
     go_quiet (fail)
     obtain ⟨n, rfl⟩ := hD
     subst hW0
     go_wp2_with (go_at_call 98; refine (reserved_any _ _).mono ?_; rw [hres]; rintro e w1 ⟨rfl, hw1⟩; rw [hw1]; clear hw1 w1)
     refine bodyPost_ret (v := .tuple #[.agg #[.int .i64 1, .string (s.extract 0 j), .int .i64 0, .int .i64 0], .int .i64 0]) (by rw [results_cell_tmp rfl]; simp [go_sem]) rfl ⟨by rw [HV.out], ?_⟩
     exact lxBa (lxB4 (lxBd (lxBa (Below.refl _ _) _) _) (Nat.le_refl _) _ _ _ _) _

set_option maxHeartbeats 2000000 in
theorem lxRead_2 (s : ByteArray) (h0 : 0 < s.size) (hs : s.size ≤ 4096) (m : Nat) (hB0 : Lx.begin s.data.toList = (2, m)) (hb : ∀ w, Calls Tryz.prog 95 #[.string s] w fun e w' => e = .returned (.tuple #[.int .i64 ((2 : Nat) : Int), .int .i64 (m : Int)]) ∧ w' = w) (w : World) :
  Calls Tryz.prog 62 #[.string s] w fun e w' => e = .returned (Lx.nextV s.data.toList) ∧ Below w.heap.size w w' := by
 have hbl := Lx.begin_le s.data.toList
 rw [hB0, Nm.len] at hbl
 have hm1 : 1 ≤ m := hbl.2.2.1 (by simp)
 have hm2 : m ≤ s.size := hbl.1
 have H1 : Hid (Lx.text s.data.toList = s.data.toList.take m ++ (s.data.toList.drop m).takeWhile (Lx.goes 2)) := by
  show _ = _; unfold Lx.text; rw [hB0]
 have HN : Hid (∀ j, j ≤ s.size → Lx.text s.data.toList = s.data.toList.take j → (Lx.begin s.data.toList).1 = 2 ∧ (Lx.text s.data.toList).length = j ∧ (⟨(Lx.text s.data.toList).toArray⟩ : ByteArray) = s.extract 0 j) := fun j hj e => by
  refine ⟨by rw [hB0], ?_, ?_⟩
  ·
   rw [e, List.length_take, Nm.len]; omega
  ·
   rw [e, Lx.pre]
 clear hbl hB0
 go_enter Tryz.func62, Tryz.ntmps62
 go_wp2_with (go_at_call 95; refine (hb _).mono ?_; rintro e w1 ⟨rfl, hw1⟩; rw [hw1]; clear hw1 w1)
 generalize hW0 : w.alloc _ = W0
 go_loopw [5] (fun v wr => ∃ j : Nat, v = .int .i64 j ∧ 1 ≤ j ∧ j ≤ s.size ∧ Hid (Lx.text s.data.toList = s.data.toList.take j ++ (s.data.toList.drop j).takeWhile (Lx.goes 2)) ∧ Drawn W0 wr) (fun v _ => s.size - (intOf v).toNat)
 case atStart => exact ⟨m, rfl, hm1, hm2, H1, Drawn.refl _⟩
 case round =>
  obtain ⟨j, rfl, hj1, hj, hx, hD⟩ := hrel
  clear hm1 hm2 H1 hb
  by_cases hlt : j < s.size
  ·
   obtain ⟨v, hv, ha⟩ := Lx.within_goes 2 4 (by omega) s[j]
   have hx2 := hx.out
   rw [Lx.run_at s 2 j hlt] at hx2
   have hc := Lx.b_lt hlt
   rw [hc] at hv
   cases hg : Lx.goes 2 s[j] with
   | true =>
    rw [if_pos hg] at hx2
    have HX : Hid (Lx.text s.data.toList = s.data.toList.take (j + 1) ++ (s.data.toList.drop (j + 1)).takeWhile (Lx.goes 2)) := by
     show _ = _
     rw [hx2, List.take_add_one, List.getElem?_eq_getElem (by rw [Nm.len]; exact hlt), List.append_assoc]; rfl
    rw [hg] at ha
    clear hx hx2 hg HN
    go_wp2
    go_quiet (first | (go_at_call 96; refine Calls.quiet_of_same (lxWithin_is hv _)))
    go_wp2
    go_roundw
    case rel => exact ⟨j + 1, by go_num, by omega, by omega, HX, hD.on _⟩
    case measure => simp [intOf]; omega
   | false =>
    rw [if_neg (by rw [hg]; simp), List.append_nil] at hx2
    rw [hg] at ha
    obtain ⟨n1, n2, n3⟩ := HN.out j hj hx2
    clear hx hx2 hg HN
    by_cases h32 : 32 < j
    ·
     have HV : Hid (Lx.nextV s.data.toList = .tuple #[.agg #[.int .i64 0, .string ⟨#[]⟩, .int .i64 0, .int .i64 0], .int .i64 12]) := by
      show _ = _
      have : Lx.next s.data.toList = .bad 12 := Lx.next_long n1 (by omega) (by omega)
      unfold Lx.nextV; rw [this]
     clear n1 n2 n3
     go_wp2
     go_quiet (first | (go_at_call 96; refine Calls.quiet_of_same (lxWithin_is hv _)))
     obtain ⟨n, rfl⟩ := hD
     subst hW0
     go_wp2
     refine bodyPost_ret (v := .tuple #[.agg #[.int .i64 0, .string ⟨#[]⟩, .int .i64 0, .int .i64 0], .int .i64 12]) (by rw [results_cell_tmp rfl]; simp [go_sem]) rfl ⟨by rw [HV.out], ?_⟩
     exact lxBa (lxB4 (lxBd (lxBa (Below.refl _ _) _) _) (Nat.le_refl _) _ _ _ _) _
    ·
     have HV : Hid (Lx.nextV s.data.toList = .tuple #[.agg #[.int .i64 2, .string (s.extract 0 j), .int .i64 0, .int .i64 0], .int .i64 0]) := by
      show _ = _
      have : Lx.next s.data.toList = .good 2 0 := Lx.next_id n1 (by omega) (by omega)
      unfold Lx.nextV; rw [this]; show Value.tuple #[.agg #[_, .string ⟨(Lx.text s.data.toList).toArray⟩, _, _], _] = _; rw [n3]; rfl
     clear n1 n2 n3
     go_wp2
     go_quiet (first | (go_at_call 96; refine Calls.quiet_of_same (lxWithin_is hv _)))
     obtain ⟨n, rfl⟩ := hD
     subst hW0
     go_wp2
     refine bodyPost_ret (v := .tuple #[.agg #[.int .i64 2, .string (s.extract 0 j), .int .i64 0, .int .i64 0], .int .i64 0]) (by rw [results_cell_tmp rfl]; simp [go_sem]) rfl ⟨by rw [HV.out], ?_⟩
     exact lxBa (lxB4 (lxBd (lxBa (Below.refl _ _) _) _) (Nat.le_refl _) _ _ _ _) _
  ·
   have hx2 := hx.out
   rw [List.drop_eq_nil_of_le (by rw [Nm.len]; omega), List.takeWhile_nil, List.append_nil] at hx2
   obtain ⟨n1, n2, n3⟩ := HN.out j hj hx2
   clear hx hx2 HN
   by_cases h32 : 32 < j
   ·
    have HV : Hid (Lx.nextV s.data.toList = .tuple #[.agg #[.int .i64 0, .string ⟨#[]⟩, .int .i64 0, .int .i64 0], .int .i64 12]) := by
     show _ = _
     have : Lx.next s.data.toList = .bad 12 := Lx.next_long n1 (by omega) (by omega)
     unfold Lx.nextV; rw [this]
    clear n1 n2 n3
    go_wp2
    go_quiet (fail)
    obtain ⟨n, rfl⟩ := hD
    subst hW0
    go_wp2
    refine bodyPost_ret (v := .tuple #[.agg #[.int .i64 0, .string ⟨#[]⟩, .int .i64 0, .int .i64 0], .int .i64 12]) (by rw [results_cell_tmp rfl]; simp [go_sem]) rfl ⟨by rw [HV.out], ?_⟩
    exact lxBa (lxB4 (lxBd (lxBa (Below.refl _ _) _) _) (Nat.le_refl _) _ _ _ _) _
   ·
    have HV : Hid (Lx.nextV s.data.toList = .tuple #[.agg #[.int .i64 2, .string (s.extract 0 j), .int .i64 0, .int .i64 0], .int .i64 0]) := by
     show _ = _
     have : Lx.next s.data.toList = .good 2 0 := Lx.next_id n1 (by omega) (by omega)
     unfold Lx.nextV; rw [this]; show Value.tuple #[.agg #[_, .string ⟨(Lx.text s.data.toList).toArray⟩, _, _], _] = _; rw [n3]; rfl
    clear n1 n2 n3
    go_wp2
    go_quiet (fail)
    obtain ⟨n, rfl⟩ := hD
    subst hW0
    go_wp2
    refine bodyPost_ret (v := .tuple #[.agg #[.int .i64 2, .string (s.extract 0 j), .int .i64 0, .int .i64 0], .int .i64 0]) (by rw [results_cell_tmp rfl]; simp [go_sem]) rfl ⟨by rw [HV.out], ?_⟩
    exact lxBa (lxB4 (lxBd (lxBa (Below.refl _ _) _) _) (Nat.le_refl _) _ _ _ _) _

set_option maxHeartbeats 2000000 in
theorem lxRead_4 (s : ByteArray) (h0 : 0 < s.size) (hs : s.size ≤ 4096) (m : Nat) (hB0 : Lx.begin s.data.toList = (4, m)) (hb : ∀ w, Calls Tryz.prog 95 #[.string s] w fun e w' => e = .returned (.tuple #[.int .i64 ((4 : Nat) : Int), .int .i64 (m : Int)]) ∧ w' = w) (w : World) (ev : Value) (hv1 : w.cell? ⟨1, 0, none⟩ = some ev) (hev : ev = .nilIface ∨ ∃ te pe, ev = .iface te pe) :
  Calls Tryz.prog 62 #[.string s] w fun e w' => e = .returned (Lx.nextV s.data.toList) ∧ Below w.heap.size w w' := by
 have hbl := Lx.begin_le s.data.toList
 rw [hB0, Nm.len] at hbl
 have hm1 : 1 ≤ m := hbl.2.2.1 (by simp)
 have hm2 : m ≤ s.size := hbl.1
 have H1 : Hid (Lx.text s.data.toList = s.data.toList.take m ++ (s.data.toList.drop m).takeWhile (Lx.goes 4)) := by
  show _ = _; unfold Lx.text; rw [hB0]
 have HN : Hid (∀ j, j ≤ s.size → Lx.text s.data.toList = s.data.toList.take j → (Lx.begin s.data.toList).1 = 4 ∧ (Lx.text s.data.toList).length = j ∧ (⟨(Lx.text s.data.toList).toArray⟩ : ByteArray) = s.extract 0 j) := fun j hj e => by
  refine ⟨by rw [hB0], ?_, ?_⟩
  ·
   rw [e, List.length_take, Nm.len]; omega
  ·
   rw [e, Lx.pre]
 have HD : Hid (((Lx.text s.data.toList).all fun c => Nm.dig (c.toNat : Int)) = true ∧ Lx.text s.data.toList ≠ []) := Lx.text_dig hB0
 clear hbl hB0
 go_enter Tryz.func62, Tryz.ntmps62
 go_wp2_with (go_at_call 95; refine (hb _).mono ?_; rintro e w1 ⟨rfl, hw1⟩; rw [hw1]; clear hw1 w1)
 generalize hW0 : w.alloc _ = W0
 go_loopw [5] (fun v wr => ∃ j : Nat, v = .int .i64 j ∧ 1 ≤ j ∧ j ≤ s.size ∧ Hid (Lx.text s.data.toList = s.data.toList.take j ++ (s.data.toList.drop j).takeWhile (Lx.goes 4)) ∧ Drawn W0 wr) (fun v _ => s.size - (intOf v).toNat)
 case atStart => exact ⟨m, rfl, hm1, hm2, H1, Drawn.refl _⟩
 case round =>
  obtain ⟨j, rfl, hj1, hj, hx, hD⟩ := hrel
  clear hm1 hm2 H1 hb
  by_cases hlt : j < s.size
  ·
   obtain ⟨v, hv, ha⟩ := Lx.within_goes 4 16 (by omega) s[j]
   have hx2 := hx.out
   rw [Lx.run_at s 4 j hlt] at hx2
   have hc := Lx.b_lt hlt
   rw [hc] at hv
   cases hg : Lx.goes 4 s[j] with
   | true =>
    rw [if_pos hg] at hx2
    have HX : Hid (Lx.text s.data.toList = s.data.toList.take (j + 1) ++ (s.data.toList.drop (j + 1)).takeWhile (Lx.goes 4)) := by
     show _ = _
     rw [hx2, List.take_add_one, List.getElem?_eq_getElem (by rw [Nm.len]; exact hlt), List.append_assoc]; rfl
    rw [hg] at ha
    clear hx hx2 hg HN
    go_wp2
    go_quiet (first | (go_at_call 96; refine Calls.quiet_of_same (lxWithin_is hv _)))
    go_wp2
    go_roundw
    case rel => exact ⟨j + 1, by go_num, by omega, by omega, HX, hD.on _⟩
    case measure => simp [intOf]; omega
   | false =>
    rw [if_neg (by rw [hg]; simp), List.append_nil] at hx2
    rw [hg] at ha
    obtain ⟨n1, n2, n3⟩ := HN.out j hj hx2
    clear hx hx2 hg HN
    have hp := Lx.num_int _ HD.out.2 HD.out.1
    have hsz : (s.extract 0 j).size ≤ 4096 := by rw [ByteArray.size_extract]; omega
    have hdat : (s.extract 0 j).data.toList = Lx.text s.data.toList := by rw [← n3]
    rw [← hdat] at hp
    have hnx := Lx.next_int n1
    by_cases hle : Lx.num 0 (Lx.text s.data.toList) ≤ 9223372036854775807
    ·
     have HV : Hid (Lx.nextV s.data.toList = .tuple #[.agg #[.int .i64 4, .string (s.extract 0 j), .int .i64 ((Lx.num 0 (Lx.text s.data.toList) : Nat) : Int), .int .i64 0], .int .i64 0]) := by
      show _ = _
      have : Lx.next s.data.toList = .good 4 (Lx.num 0 (Lx.text s.data.toList)) := by rw [hnx, if_pos hle]
      unfold Lx.nextV; rw [this]; show Value.tuple #[.agg #[_, .string ⟨(Lx.text s.data.toList).toArray⟩, _, _], _] = _; rw [n3]; rfl
     rw [hdat, if_pos hle, ← hdat, hdat] at hp
     have hp2 : Lib.parseIntB 64 (s.extract 0 j).data.toList = .ok ((Lx.num 0 (Lx.text s.data.toList) : Nat) : Int) := by rw [hdat]; exact hp
     clear hp hnx
     generalize Lx.num 0 (Lx.text s.data.toList) = q at *
     clear n1 n2 n3 hdat HD
     go_wp2
     go_quiet (first | (go_at_call 96; refine Calls.quiet_of_same (lxWithin_is hv _)))
     obtain ⟨n, rfl⟩ := hD
     subst hW0
     go_wp2_with (go_at_call 97; refine (Tryz.strconv_ParseInt_10_at64_ok _ (by omega) _ hp2 _).mono ?_; rintro e w2 ⟨rfl, hw2⟩; have hb2 := lxBytes hw2; clear hw2; have hB2 : Below w.heap.size w w2 := (lxBa (lxBd (lxBa (Below.refl _ _) _) _) _).trans (hb2.mono (by simp [go_sem]; omega)); have c0 : w2.cell? ⟨w.heap.size, 0, none⟩ = some (.int .i64 0) := by { rw [hb2.cell (by simp [go_sem])]; simp [go_sem] }; have c1 : w2.cell? ⟨w.heap.size, 1, none⟩ = some (.string ⟨#[]⟩) := by { rw [hb2.cell (by simp [go_sem])]; simp [go_sem] }; have c2 : w2.cell? ⟨w.heap.size, 2, none⟩ = some (.int .i64 0) := by { rw [hb2.cell (by simp [go_sem])]; simp [go_sem] }; have c3 : w2.cell? ⟨w.heap.size, 3, none⟩ = some (.int .i64 0) := by { rw [hb2.cell (by simp [go_sem])]; simp [go_sem] }; have f0 : ∀ i, w2.frozen? ⟨w.heap.size, i, none⟩ = false := fun i => by { rw [hb2.frozen (by simp [go_sem])]; simp [go_sem] }; have t0 : w2.cell? ⟨w.heap.size + 1, 0, none⟩ = some (.int .i64 4) := by { rw [hb2.cell (by simp [go_sem])]; simp [go_sem] }; have t1 : w2.cell? ⟨w.heap.size + 1, 1, none⟩ = some (.string (s.extract 0 j)) := by { rw [hb2.cell (by simp [go_sem])]; simp [go_sem] }; have t2 : w2.cell? ⟨w.heap.size + 1, 2, none⟩ = some (.int .i64 0) := by { rw [hb2.cell (by simp [go_sem])]; simp [go_sem] }; have t3 : w2.cell? ⟨w.heap.size + 1, 3, none⟩ = some (.int .i64 0) := by { rw [hb2.cell (by simp [go_sem])]; simp [go_sem] }; have g0 : ∀ i, w2.frozen? ⟨w.heap.size + 1, i, none⟩ = false := fun i => by { rw [hb2.frozen (by simp [go_sem])]; simp [go_sem] })
     refine bodyPost_ret (v := .tuple #[.agg #[.int .i64 4, .string (s.extract 0 j), .int .i64 (q : Int), .int .i64 0], .int .i64 0]) (by rw [results_cell_tmp rfl]; simp [go_sem, *]) rfl ⟨by rw [HV.out], ?_⟩
     exact lxB4 (hB2.setCell (Nat.le_succ _) _) (Nat.le_refl _) _ _ _ _
    ·
     have HV : Hid (Lx.nextV s.data.toList = .tuple #[.agg #[.int .i64 0, .string ⟨#[]⟩, .int .i64 0, .int .i64 0], .int .i64 1]) := by
      show _ = _
      have : Lx.next s.data.toList = .bad 1 := by rw [hnx, if_neg hle]
      unfold Lx.nextV; rw [this]
     rw [hdat, if_neg hle, ← hdat] at hp
     clear n1 n2 n3 hdat HD hnx hle
     go_wp2
     go_quiet (first | (go_at_call 96; refine Calls.quiet_of_same (lxWithin_is hv _)))
     obtain ⟨n, rfl⟩ := hD
     subst hW0
     go_wp2_with (go_at_call 97; refine (Tryz.strconv_ParseInt_10_at64_range _ (by omega) hp ev _ (((lxBa (lxBd (lxBa (Below.refl _ _) _) _) _).cell (lxLt hv1)).trans hv1) hev).mono ?_; rintro e w2 ⟨N, rfl, hN, hO, hb2⟩; have hB2 : Below w.heap.size w w2 := (lxBa (lxBd (lxBa (Below.refl _ _) _) _) _).trans (hb2.mono (by simp [go_sem]; omega)); have c0 : w2.cell? ⟨w.heap.size, 0, none⟩ = some (.int .i64 0) := by { rw [hb2.cell (by simp [go_sem])]; simp [go_sem] }; have c1 : w2.cell? ⟨w.heap.size, 1, none⟩ = some (.string ⟨#[]⟩) := by { rw [hb2.cell (by simp [go_sem])]; simp [go_sem] }; have c2 : w2.cell? ⟨w.heap.size, 2, none⟩ = some (.int .i64 0) := by { rw [hb2.cell (by simp [go_sem])]; simp [go_sem] }; have c3 : w2.cell? ⟨w.heap.size, 3, none⟩ = some (.int .i64 0) := by { rw [hb2.cell (by simp [go_sem])]; simp [go_sem] }; have f0 : ∀ i, w2.frozen? ⟨w.heap.size, i, none⟩ = false := fun i => by { rw [hb2.frozen (by simp [go_sem])]; simp [go_sem] })
     refine bodyPost_ret (v := .tuple #[.agg #[.int .i64 0, .string ⟨#[]⟩, .int .i64 0, .int .i64 0], .int .i64 1]) (by rw [results_cell_tmp rfl]; simp [go_sem, *]) rfl ⟨by rw [HV.out], ?_⟩
     exact lxB4 hB2 (Nat.le_refl _) _ _ _ _
  ·
   have hx2 := hx.out
   rw [List.drop_eq_nil_of_le (by rw [Nm.len]; omega), List.takeWhile_nil, List.append_nil] at hx2
   obtain ⟨n1, n2, n3⟩ := HN.out j hj hx2
   clear hx hx2 HN
   have hp := Lx.num_int _ HD.out.2 HD.out.1
   have hsz : (s.extract 0 j).size ≤ 4096 := by rw [ByteArray.size_extract]; omega
   have hdat : (s.extract 0 j).data.toList = Lx.text s.data.toList := by rw [← n3]
   rw [← hdat] at hp
   have hnx := Lx.next_int n1
   by_cases hle : Lx.num 0 (Lx.text s.data.toList) ≤ 9223372036854775807
   ·
    have HV : Hid (Lx.nextV s.data.toList = .tuple #[.agg #[.int .i64 4, .string (s.extract 0 j), .int .i64 ((Lx.num 0 (Lx.text s.data.toList) : Nat) : Int), .int .i64 0], .int .i64 0]) := by
     show _ = _
     have : Lx.next s.data.toList = .good 4 (Lx.num 0 (Lx.text s.data.toList)) := by rw [hnx, if_pos hle]
     unfold Lx.nextV; rw [this]; show Value.tuple #[.agg #[_, .string ⟨(Lx.text s.data.toList).toArray⟩, _, _], _] = _; rw [n3]; rfl
    rw [hdat, if_pos hle, ← hdat, hdat] at hp
    have hp2 : Lib.parseIntB 64 (s.extract 0 j).data.toList = .ok ((Lx.num 0 (Lx.text s.data.toList) : Nat) : Int) := by rw [hdat]; exact hp
    clear hp hnx
    generalize Lx.num 0 (Lx.text s.data.toList) = q at *
    clear n1 n2 n3 hdat HD
    go_wp2
    go_quiet (fail)
    obtain ⟨n, rfl⟩ := hD
    subst hW0
    go_wp2_with (go_at_call 97; refine (Tryz.strconv_ParseInt_10_at64_ok _ (by omega) _ hp2 _).mono ?_; rintro e w2 ⟨rfl, hw2⟩; have hb2 := lxBytes hw2; clear hw2; have hB2 : Below w.heap.size w w2 := (lxBa (lxBd (lxBa (Below.refl _ _) _) _) _).trans (hb2.mono (by simp [go_sem]; omega)); have c0 : w2.cell? ⟨w.heap.size, 0, none⟩ = some (.int .i64 0) := by { rw [hb2.cell (by simp [go_sem])]; simp [go_sem] }; have c1 : w2.cell? ⟨w.heap.size, 1, none⟩ = some (.string ⟨#[]⟩) := by { rw [hb2.cell (by simp [go_sem])]; simp [go_sem] }; have c2 : w2.cell? ⟨w.heap.size, 2, none⟩ = some (.int .i64 0) := by { rw [hb2.cell (by simp [go_sem])]; simp [go_sem] }; have c3 : w2.cell? ⟨w.heap.size, 3, none⟩ = some (.int .i64 0) := by { rw [hb2.cell (by simp [go_sem])]; simp [go_sem] }; have f0 : ∀ i, w2.frozen? ⟨w.heap.size, i, none⟩ = false := fun i => by { rw [hb2.frozen (by simp [go_sem])]; simp [go_sem] }; have t0 : w2.cell? ⟨w.heap.size + 1, 0, none⟩ = some (.int .i64 4) := by { rw [hb2.cell (by simp [go_sem])]; simp [go_sem] }; have t1 : w2.cell? ⟨w.heap.size + 1, 1, none⟩ = some (.string (s.extract 0 j)) := by { rw [hb2.cell (by simp [go_sem])]; simp [go_sem] }; have t2 : w2.cell? ⟨w.heap.size + 1, 2, none⟩ = some (.int .i64 0) := by { rw [hb2.cell (by simp [go_sem])]; simp [go_sem] }; have t3 : w2.cell? ⟨w.heap.size + 1, 3, none⟩ = some (.int .i64 0) := by { rw [hb2.cell (by simp [go_sem])]; simp [go_sem] }; have g0 : ∀ i, w2.frozen? ⟨w.heap.size + 1, i, none⟩ = false := fun i => by { rw [hb2.frozen (by simp [go_sem])]; simp [go_sem] })
    refine bodyPost_ret (v := .tuple #[.agg #[.int .i64 4, .string (s.extract 0 j), .int .i64 (q : Int), .int .i64 0], .int .i64 0]) (by rw [results_cell_tmp rfl]; simp [go_sem, *]) rfl ⟨by rw [HV.out], ?_⟩
    exact lxB4 (hB2.setCell (Nat.le_succ _) _) (Nat.le_refl _) _ _ _ _
   ·
    have HV : Hid (Lx.nextV s.data.toList = .tuple #[.agg #[.int .i64 0, .string ⟨#[]⟩, .int .i64 0, .int .i64 0], .int .i64 1]) := by
     show _ = _
     have : Lx.next s.data.toList = .bad 1 := by rw [hnx, if_neg hle]
     unfold Lx.nextV; rw [this]
    rw [hdat, if_neg hle, ← hdat] at hp
    clear n1 n2 n3 hdat HD hnx hle
    go_wp2
    go_quiet (fail)
    obtain ⟨n, rfl⟩ := hD
    subst hW0
    go_wp2_with (go_at_call 97; refine (Tryz.strconv_ParseInt_10_at64_range _ (by omega) hp ev _ (((lxBa (lxBd (lxBa (Below.refl _ _) _) _) _).cell (lxLt hv1)).trans hv1) hev).mono ?_; rintro e w2 ⟨N, rfl, hN, hO, hb2⟩; have hB2 : Below w.heap.size w w2 := (lxBa (lxBd (lxBa (Below.refl _ _) _) _) _).trans (hb2.mono (by simp [go_sem]; omega)); have c0 : w2.cell? ⟨w.heap.size, 0, none⟩ = some (.int .i64 0) := by { rw [hb2.cell (by simp [go_sem])]; simp [go_sem] }; have c1 : w2.cell? ⟨w.heap.size, 1, none⟩ = some (.string ⟨#[]⟩) := by { rw [hb2.cell (by simp [go_sem])]; simp [go_sem] }; have c2 : w2.cell? ⟨w.heap.size, 2, none⟩ = some (.int .i64 0) := by { rw [hb2.cell (by simp [go_sem])]; simp [go_sem] }; have c3 : w2.cell? ⟨w.heap.size, 3, none⟩ = some (.int .i64 0) := by { rw [hb2.cell (by simp [go_sem])]; simp [go_sem] }; have f0 : ∀ i, w2.frozen? ⟨w.heap.size, i, none⟩ = false := fun i => by { rw [hb2.frozen (by simp [go_sem])]; simp [go_sem] })
    refine bodyPost_ret (v := .tuple #[.agg #[.int .i64 0, .string ⟨#[]⟩, .int .i64 0, .int .i64 0], .int .i64 1]) (by rw [results_cell_tmp rfl]; simp [go_sem, *]) rfl ⟨by rw [HV.out], ?_⟩
    exact lxB4 hB2 (Nat.le_refl _) _ _ _ _

set_option maxHeartbeats 2000000 in
theorem lxRead_5 (s : ByteArray) (h0 : 0 < s.size) (hs : s.size ≤ 4096) (m : Nat) (hB0 : Lx.begin s.data.toList = (5, m)) (hb : ∀ w, Calls Tryz.prog 95 #[.string s] w fun e w' => e = .returned (.tuple #[.int .i64 ((5 : Nat) : Int), .int .i64 (m : Int)]) ∧ w' = w) (w : World) :
  Calls Tryz.prog 62 #[.string s] w fun e w' => e = .returned (Lx.nextV s.data.toList) ∧ Below w.heap.size w w' := by
 have hbl := Lx.begin_le s.data.toList
 rw [hB0, Nm.len] at hbl
 have hm1 : 1 ≤ m := hbl.2.2.1 (by simp)
 have hm2 : m ≤ s.size := hbl.1
 have H1 : Hid (Lx.text s.data.toList = s.data.toList.take m ++ (s.data.toList.drop m).takeWhile (Lx.goes 5)) := by
  show _ = _; unfold Lx.text; rw [hB0]
 have HN : Hid (∀ j, j ≤ s.size → Lx.text s.data.toList = s.data.toList.take j → (Lx.begin s.data.toList).1 = 5 ∧ (Lx.text s.data.toList).length = j ∧ (⟨(Lx.text s.data.toList).toArray⟩ : ByteArray) = s.extract 0 j) := fun j hj e => by
  refine ⟨by rw [hB0], ?_, ?_⟩
  ·
   rw [e, List.length_take, Nm.len]; omega
  ·
   rw [e, Lx.pre]
 clear hbl hB0
 go_enter Tryz.func62, Tryz.ntmps62
 go_wp2_with (go_at_call 95; refine (hb _).mono ?_; rintro e w1 ⟨rfl, hw1⟩; rw [hw1]; clear hw1 w1)
 generalize hW0 : w.alloc _ = W0
 go_loopw [5] (fun v wr => ∃ j : Nat, v = .int .i64 j ∧ 1 ≤ j ∧ j ≤ s.size ∧ Hid (Lx.text s.data.toList = s.data.toList.take j ++ (s.data.toList.drop j).takeWhile (Lx.goes 5)) ∧ Drawn W0 wr) (fun v _ => s.size - (intOf v).toNat)
 case atStart => exact ⟨m, rfl, hm1, hm2, H1, Drawn.refl _⟩
 case round =>
  obtain ⟨j, rfl, hj1, hj, hx, hD⟩ := hrel
  clear hm1 hm2 H1 hb
  by_cases hlt : j < s.size
  ·
   obtain ⟨v, hv, ha⟩ := Lx.within_goes 5 32 (by omega) s[j]
   have hx2 := hx.out
   rw [Lx.run_at s 5 j hlt] at hx2
   have hc := Lx.b_lt hlt
   rw [hc] at hv
   cases hg : Lx.goes 5 s[j] with
   | true =>
    rw [if_pos hg] at hx2
    have HX : Hid (Lx.text s.data.toList = s.data.toList.take (j + 1) ++ (s.data.toList.drop (j + 1)).takeWhile (Lx.goes 5)) := by
     show _ = _
     rw [hx2, List.take_add_one, List.getElem?_eq_getElem (by rw [Nm.len]; exact hlt), List.append_assoc]; rfl
    rw [hg] at ha
    clear hx hx2 hg HN
    go_wp2
    go_quiet (first | (go_at_call 96; refine Calls.quiet_of_same (lxWithin_is hv _)))
    go_wp2
    go_roundw
    case rel => exact ⟨j + 1, by go_num, by omega, by omega, HX, hD.on _⟩
    case measure => simp [intOf]; omega
   | false =>
    rw [if_neg (by rw [hg]; simp), List.append_nil] at hx2
    rw [hg] at ha
    obtain ⟨n1, n2, n3⟩ := HN.out j hj hx2
    clear hx hx2 hg HN
    by_cases h32 : 32 < j
    ·
     have HV : Hid (Lx.nextV s.data.toList = .tuple #[.agg #[.int .i64 0, .string ⟨#[]⟩, .int .i64 0, .int .i64 0], .int .i64 12]) := by
      show _ = _
      have : Lx.next s.data.toList = .bad 12 := Lx.next_long n1 (by omega) (by omega)
      unfold Lx.nextV; rw [this]
     clear n1 n2 n3
     go_wp2
     go_quiet (first | (go_at_call 96; refine Calls.quiet_of_same (lxWithin_is hv _)))
     obtain ⟨n, rfl⟩ := hD
     subst hW0
     go_wp2
     refine bodyPost_ret (v := .tuple #[.agg #[.int .i64 0, .string ⟨#[]⟩, .int .i64 0, .int .i64 0], .int .i64 12]) (by rw [results_cell_tmp rfl]; simp [go_sem]) rfl ⟨by rw [HV.out], ?_⟩
     exact lxBa (lxB4 (lxBd (lxBa (Below.refl _ _) _) _) (Nat.le_refl _) _ _ _ _) _
    ·
     have HV : Hid (Lx.nextV s.data.toList = .tuple #[.agg #[.int .i64 5, .string (s.extract 0 j), .int .i64 0, .int .i64 0], .int .i64 0]) := by
      show _ = _
      have : Lx.next s.data.toList = .good 5 0 := Lx.next_id n1 (by omega) (by omega)
      unfold Lx.nextV; rw [this]; show Value.tuple #[.agg #[_, .string ⟨(Lx.text s.data.toList).toArray⟩, _, _], _] = _; rw [n3]; rfl
     clear n1 n2 n3
     go_wp2
     go_quiet (first | (go_at_call 96; refine Calls.quiet_of_same (lxWithin_is hv _)))
     obtain ⟨n, rfl⟩ := hD
     subst hW0
     go_wp2
     refine bodyPost_ret (v := .tuple #[.agg #[.int .i64 5, .string (s.extract 0 j), .int .i64 0, .int .i64 0], .int .i64 0]) (by rw [results_cell_tmp rfl]; simp [go_sem]) rfl ⟨by rw [HV.out], ?_⟩
     exact lxBa (lxB4 (lxBd (lxBa (Below.refl _ _) _) _) (Nat.le_refl _) _ _ _ _) _
  ·
   have hx2 := hx.out
   rw [List.drop_eq_nil_of_le (by rw [Nm.len]; omega), List.takeWhile_nil, List.append_nil] at hx2
   obtain ⟨n1, n2, n3⟩ := HN.out j hj hx2
   clear hx hx2 HN
   by_cases h32 : 32 < j
   ·
    have HV : Hid (Lx.nextV s.data.toList = .tuple #[.agg #[.int .i64 0, .string ⟨#[]⟩, .int .i64 0, .int .i64 0], .int .i64 12]) := by
     show _ = _
     have : Lx.next s.data.toList = .bad 12 := Lx.next_long n1 (by omega) (by omega)
     unfold Lx.nextV; rw [this]
    clear n1 n2 n3
    go_wp2
    go_quiet (fail)
    obtain ⟨n, rfl⟩ := hD
    subst hW0
    go_wp2
    refine bodyPost_ret (v := .tuple #[.agg #[.int .i64 0, .string ⟨#[]⟩, .int .i64 0, .int .i64 0], .int .i64 12]) (by rw [results_cell_tmp rfl]; simp [go_sem]) rfl ⟨by rw [HV.out], ?_⟩
    exact lxBa (lxB4 (lxBd (lxBa (Below.refl _ _) _) _) (Nat.le_refl _) _ _ _ _) _
   ·
    have HV : Hid (Lx.nextV s.data.toList = .tuple #[.agg #[.int .i64 5, .string (s.extract 0 j), .int .i64 0, .int .i64 0], .int .i64 0]) := by
     show _ = _
     have : Lx.next s.data.toList = .good 5 0 := Lx.next_id n1 (by omega) (by omega)
     unfold Lx.nextV; rw [this]; show Value.tuple #[.agg #[_, .string ⟨(Lx.text s.data.toList).toArray⟩, _, _], _] = _; rw [n3]; rfl
    clear n1 n2 n3
    go_wp2
    go_quiet (fail)
    obtain ⟨n, rfl⟩ := hD
    subst hW0
    go_wp2
    refine bodyPost_ret (v := .tuple #[.agg #[.int .i64 5, .string (s.extract 0 j), .int .i64 0, .int .i64 0], .int .i64 0]) (by rw [results_cell_tmp rfl]; simp [go_sem]) rfl ⟨by rw [HV.out], ?_⟩
    exact lxBa (lxB4 (lxBd (lxBa (Below.refl _ _) _) _) (Nat.le_refl _) _ _ _ _) _

set_option maxHeartbeats 2000000 in
theorem lxRead_6 (s : ByteArray) (h0 : 0 < s.size) (hs : s.size ≤ 4096) (m : Nat) (hB0 : Lx.begin s.data.toList = (6, m)) (hb : ∀ w, Calls Tryz.prog 95 #[.string s] w fun e w' => e = .returned (.tuple #[.int .i64 ((6 : Nat) : Int), .int .i64 (m : Int)]) ∧ w' = w) (w : World) :
  Calls Tryz.prog 62 #[.string s] w fun e w' => e = .returned (Lx.nextV s.data.toList) ∧ Below w.heap.size w w' := by
 have hbl := Lx.begin_le s.data.toList
 rw [hB0, Nm.len] at hbl
 have hm1 : 1 ≤ m := hbl.2.2.1 (by simp)
 have hm2 : m ≤ s.size := hbl.1
 have H1 : Hid (Lx.text s.data.toList = s.data.toList.take m ++ (s.data.toList.drop m).takeWhile (Lx.goes 6)) := by
  show _ = _; unfold Lx.text; rw [hB0]
 have HN : Hid (∀ j, j ≤ s.size → Lx.text s.data.toList = s.data.toList.take j → (Lx.begin s.data.toList).1 = 6 ∧ (Lx.text s.data.toList).length = j ∧ (⟨(Lx.text s.data.toList).toArray⟩ : ByteArray) = s.extract 0 j) := fun j hj e => by
  refine ⟨by rw [hB0], ?_, ?_⟩
  ·
   rw [e, List.length_take, Nm.len]; omega
  ·
   rw [e, Lx.pre]
 clear hbl hB0
 go_enter Tryz.func62, Tryz.ntmps62
 go_wp2_with (go_at_call 95; refine (hb _).mono ?_; rintro e w1 ⟨rfl, hw1⟩; rw [hw1]; clear hw1 w1)
 generalize hW0 : w.alloc _ = W0
 go_loopw [5] (fun v wr => ∃ j : Nat, v = .int .i64 j ∧ 1 ≤ j ∧ j ≤ s.size ∧ Hid (Lx.text s.data.toList = s.data.toList.take j ++ (s.data.toList.drop j).takeWhile (Lx.goes 6)) ∧ Drawn W0 wr) (fun v _ => s.size - (intOf v).toNat)
 case atStart => exact ⟨m, rfl, hm1, hm2, H1, Drawn.refl _⟩
 case round =>
  obtain ⟨j, rfl, hj1, hj, hx, hD⟩ := hrel
  clear hm1 hm2 H1 hb
  by_cases hlt : j < s.size
  ·
   obtain ⟨v, hv, ha⟩ := Lx.within_goes 6 64 (by omega) s[j]
   have hx2 := hx.out
   rw [Lx.run_at s 6 j hlt] at hx2
   have hc := Lx.b_lt hlt
   rw [hc] at hv
   cases hg : Lx.goes 6 s[j] with
   | true =>
    rw [if_pos hg] at hx2
    have HX : Hid (Lx.text s.data.toList = s.data.toList.take (j + 1) ++ (s.data.toList.drop (j + 1)).takeWhile (Lx.goes 6)) := by
     show _ = _
     rw [hx2, List.take_add_one, List.getElem?_eq_getElem (by rw [Nm.len]; exact hlt), List.append_assoc]; rfl
    rw [hg] at ha
    clear hx hx2 hg HN
    go_wp2
    go_quiet (first | (go_at_call 96; refine Calls.quiet_of_same (lxWithin_is hv _)))
    go_wp2
    go_roundw
    case rel => exact ⟨j + 1, by go_num, by omega, by omega, HX, hD.on _⟩
    case measure => simp [intOf]; omega
   | false =>
    rw [if_neg (by rw [hg]; simp), List.append_nil] at hx2
    rw [hg] at ha
    obtain ⟨n1, n2, n3⟩ := HN.out j hj hx2
    clear hx hx2 hg HN
    have HV : Hid (Lx.nextV s.data.toList = .tuple #[.agg #[.int .i64 6, .string (s.extract 0 j), .int .i64 0, .int .i64 0], .int .i64 0]) := by
     show _ = _
     have : Lx.next s.data.toList = .good 6 0 := by unfold Lx.next; rw [n1]; rfl
     unfold Lx.nextV; rw [this]; show Value.tuple #[.agg #[_, .string ⟨(Lx.text s.data.toList).toArray⟩, _, _], _] = _; rw [n3]; rfl
    clear n1 n2 n3
    go_wp2
    go_quiet (first | (go_at_call 96; refine Calls.quiet_of_same (lxWithin_is hv _)))
    obtain ⟨n, rfl⟩ := hD
    subst hW0
    go_wp2
    refine bodyPost_ret (v := .tuple #[.agg #[.int .i64 6, .string (s.extract 0 j), .int .i64 0, .int .i64 0], .int .i64 0]) (by rw [results_cell_tmp rfl]; simp [go_sem]) rfl ⟨by rw [HV.out], ?_⟩
    exact lxBa (lxB4 (lxBd (lxBa (Below.refl _ _) _) _) (Nat.le_refl _) _ _ _ _) _
  ·
   have hx2 := hx.out
   rw [List.drop_eq_nil_of_le (by rw [Nm.len]; omega), List.takeWhile_nil, List.append_nil] at hx2
   obtain ⟨n1, n2, n3⟩ := HN.out j hj hx2
   clear hx hx2 HN
   have HV : Hid (Lx.nextV s.data.toList = .tuple #[.agg #[.int .i64 6, .string (s.extract 0 j), .int .i64 0, .int .i64 0], .int .i64 0]) := by
    show _ = _
    have : Lx.next s.data.toList = .good 6 0 := by unfold Lx.next; rw [n1]; rfl
    unfold Lx.nextV; rw [this]; show Value.tuple #[.agg #[_, .string ⟨(Lx.text s.data.toList).toArray⟩, _, _], _] = _; rw [n3]; rfl
   clear n1 n2 n3
   go_wp2
   go_quiet (fail)
   obtain ⟨n, rfl⟩ := hD
   subst hW0
   go_wp2
   refine bodyPost_ret (v := .tuple #[.agg #[.int .i64 6, .string (s.extract 0 j), .int .i64 0, .int .i64 0], .int .i64 0]) (by rw [results_cell_tmp rfl]; simp [go_sem]) rfl ⟨by rw [HV.out], ?_⟩
   exact lxBa (lxB4 (lxBd (lxBa (Below.refl _ _) _) _) (Nat.le_refl _) _ _ _ _) _

theorem lxRead_any (s : ByteArray) (h0 : 0 < s.size) (hs : s.size ≤ 4096) (w : World) (ev : Value) (hv1 : w.cell? ⟨1, 0, none⟩ = some ev) (hev : ev = .nilIface ∨ ∃ te pe, ev = .iface te pe) :
  Calls Tryz.prog 62 #[.string s] w fun e w' => e = .returned (Lx.nextV s.data.toList) ∧ Below w.heap.size w w' := by
 have hb := lxBegin_any s h0
 have hB0 := Lx.begin_at s 0 h0
 rw [List.drop_zero, Nat.zero_add] at hB0
 have hle := Lx.begin_le s.data.toList
 cases hB : Lx.beginI (Lx.b s 0) (Lx.b s 1) with
 | mk k m =>
 rw [hB] at hb hB0
 rw [hB0] at hle
 have hk6 : k ≤ 6 := hle.2.2.2.1
 have hk3 : k ≠ 3 := hle.2.2.2.2
 rcases (by omega : k = 0 ∨ k = 1 ∨ k = 2 ∨ k = 4 ∨ k = 5 ∨ k = 6) with rfl | rfl | rfl | rfl | rfl | rfl
 ·
  have H : Hid (Lx.nextV s.data.toList = .tuple #[.agg #[.int .i64 0, .string ⟨#[]⟩, .int .i64 0, .int .i64 0], .int .i64 10]) := by
   show _ = _
   have : Lx.next s.data.toList = .bad 10 := by unfold Lx.next; rw [hB0]; rfl
   unfold Lx.nextV; rw [this]
  clear hle
  go_enter Tryz.func62, Tryz.ntmps62
  go_wp2_with (go_at_call 95; refine (hb _).mono ?_; rintro e w1 ⟨rfl, hw1⟩; rw [hw1]; clear hw1 w1)
  refine bodyPost_ret (v := .tuple #[.agg #[.int .i64 0, .string ⟨#[]⟩, .int .i64 0, .int .i64 0], .int .i64 10]) (by rw [results_cell_tmp rfl]; simp [go_sem]) rfl ⟨by rw [H.out], (Below.refl _ _).alloc (Nat.le_refl _) _⟩
 ·
  exact lxRead_1 s h0 hs m hB0 hb w
 ·
  exact lxRead_2 s h0 hs m hB0 hb w
 ·
  exact lxRead_4 s h0 hs m hB0 hb w ev hv1 hev
 ·
  exact lxRead_5 s h0 hs m hB0 hb w
 ·
  exact lxRead_6 s h0 hs m hB0 hb w
end Go.Proofs.YtjebepnphoeiaabGreatDoor
